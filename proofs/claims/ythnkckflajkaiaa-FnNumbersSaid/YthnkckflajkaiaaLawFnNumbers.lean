/- The law of chapter 10 on the numbers of positions holds: for every code the law returns true and the code reads behind the call as it read before. No conditions. -/
import Derived.Test.Ythnkckflajkaiaa10q
import Derived.Test.YthnkckflajkaiaaDrawD10b
import Derived.Test.YthnkckflajkaiaaLike
import Derived.Test.YthnkckflajkaiaaCln
import Derived.ArgAppend
import Derived.Test.YthnkckflajkaiaaRows
import Derived.ChangeOld
namespace Go.Proofs.Ythnkckflajkaiaa
open Go.ChangeMaps (open_string shut_string)
open Go.ChangeShapes Go.WideShapes Go.ChangeAt Go.RowKit
set_option linter.unusedVariables false
set_option linter.unusedSimpArgs false

theorem code_of_ints {w : World} {x : Addr} {len : Nat} {zs : List Int} (hl : len ≤ zs.length) (_hz : True) (hcell : ∀ i, i < zs.length → w.cell? (x.add i) = some (.int .u8 (zs.getD i 0))) (hwz : ∀ n ∈ zs, (Lit.int .u8 n).wf = true) : CodeIn w.heap.size w (some x) len := by
  intro i hi
  obtain ⟨b, o, spot⟩ := x
  have hc := hcell i (by omega)
  have hspot : spot = none := by
    have hc0 := hcell 0 (by omega)
    simpa [Addr.add] using World.cell?_spot hc0
  subst hspot
  rw [show (⟨b, o, none⟩ : Addr).add i = ⟨b, o + i, none⟩ from by unfold Addr.add; split <;> simp_all] at hc
  have hm : zs.getD i 0 ∈ zs := by
    have : i < zs.length := by omega
    simp [List.getD, this]
  have hw := hwz _ hm
  have hr : 0 ≤ zs.getD i 0 ∧ zs.getD i 0 ≤ 255 := by simpa [Lit.wf, IntKind.min, IntKind.max, IntKind.signed, IntKind.bits] using hw
  exact ⟨b, o, zs.getD i 0, rfl, World.block_lt_of_cell? w _ hc, hc, hr.1, hr.2⟩
theorem bigR_any (a : Option Addr) (len cap : Nat) (w : World) :
    Calls Try.prog 39 #[.slice a len cap] w fun e w' => e = .returned (.bool (decide (4096 < (len : Int)))) ∧ w = w' := by
  go_enter Try.func39, Try.ntmps39
  go_wp2
  go_ret
  exact ⟨rfl, rfl⟩
theorem step_pushAll {ops : Array Oper} {o : Oper} {a : Act} {w : World} {K : Act → World → Prop} {Q : Exit → Act → World → Prop} {E : Prop} (hgd : o.guard = none) (s x : Operand)
    (ho : o.op = .call { callee := .builtin .append, args := #[s, x], argTypes := #[24, 24] })
    (base : Nat) (v : Value) (D : List Int) (hs : a.eval s = v) (hown : Own w base v D) (ad : Option Addr) (ys : List Int) (m c : Nat) (hx : a.eval x = .slice ad m c) (hm : ys.length = m) (hr : IRow w ad ys) (hpos : 0 < m)
    (hl : D.length + m ≤ 1048576) (hbase : base ≤ w.heap.size)
    (h : ∀ v' w', Own w' base v' (D ++ ys) → Below base w w' → K (a.put o.dst v') w') :
    if Region.wanted o (yielded ops a.tmps) = true then Oper.wp Try.prog o a w K Q else E := by
  obtain ⟨i0, hi, hz0, hz1, hz2⟩ := info_parts infoI64
  obtain ⟨b, off, rfl, -⟩ := hr 0 (by omega)
  subst hm
  refine step_append_lies w hgd s x 24 ho base 2 i0 (.int .i64 0) 1 8 Try.underlying24 hi hz0 hz1 hz2 rfl (by decide) v D.length (ints D) hs hown ⟨b, off, none⟩ ys.length c (ints ys) hx (by simp [ints]) ?_ ints_one hpos (by unfold maxLen; omega) (by omega) hbase w.heap.size rfl ?_
  · intro j u hj
    obtain ⟨hlt, rfl⟩ := List.getElem?_eq_some_iff.1 hj
    have hlt2 : j < ys.length := by simpa [ints] using hlt
    obtain ⟨b', o', e, hc⟩ := hr j hlt2
    simp at e
    obtain ⟨rfl, rfl⟩ := e
    rw [show (⟨b, off, none⟩ : Addr).add j = ⟨b, off + j, none⟩ from by unfold Addr.add; split <;> simp_all, hc]
    simp [ints, hlt2]
  · intro g cap w' hown' hgrow _ _
    refine h _ w' ?_ ((Below.refl base w).grown hgrow hbase (fun k hk => (World.ownsRow.lt hown k hk).1))
    show w'.ownsRow base 2 1 _ (D ++ ys).length (ints (D ++ ys))
    rw [show (D ++ ys).length = D.length + ys.length by simp, show ints (D ++ ys) = ints D ++ ints ys by simp [ints]]
    exact hown'
set_option maxRecDepth 8000 in
set_option maxHeartbeats 4000000 in
theorem fnNumbers_walk (a : Option Addr) (len cap : Nat) (w : World) (hcode : CodeIn w.heap.size w a len) :
    Calls Try.prog 10 #[.slice a len cap] w fun e w' => e = .returned (.bool true) ∧ Below w.heap.size w w' := by
  by_cases hbig : 4096 < len
  · have f0 : decide (4096 < (len : Int)) = true := by simp; omega
    go_enter Try.func10, Try.ntmps10
    go_wp2_with fail
    refine (bigR_any _ _ _ _).mono ?_
    rintro e w1 ⟨rfl, rfl⟩
    go_wp2
    go_ret
    exact ⟨rfl, Below.refl _ _⟩
  · have f0 : decide (4096 < (len : Int)) = false := by simp; omega
    go_enter Try.func10, Try.ntmps10
    go_wp2_with fail
    refine (bigR_any _ _ _ _).mono ?_
    rintro e w0 ⟨rfl, rfl⟩
    go_wp2_with fail
    obtain ⟨bs, hcs⟩ := hcode.is
    have hD0 := fun W (hb : Below w.heap.size w W) => drawNumberD_any w.heap.size a len cap W hb.size (by omega) bs (hcs.below hb)
    have hln := diV_length len bs
    obtain ⟨⟨⟨p, c, h, s⟩, xs⟩, hq⟩ : ∃ q, diV len bs = q := ⟨_, rfl⟩
    rw [hq] at hD0 hln
    dsimp only at hln
    obtain ⟨hx0, hxl⟩ := hln
    have hle : xs.length ≤ 1048576 := by omega
    have hD : ∀ W, Below w.heap.size w W → Calls Try.prog 40 #[.slice a len cap] W fun e w' => ∃ (aL : Option Addr) (kL : Nat), e = .returned (.tuple #[.agg #[.int .i64 p, .int .i64 c, .int .i64 h, .int .i64 s], .slice aL xs.length kL]) ∧ OSl (W.heap.size + 1) w'.heap.size w' aL xs ∧ Below W.heap.size W w' := hD0
    have HD := Lib.hid hD
    clear hbig f0 hcode hcs hD hD0 hq
    refine (HD.out _ (Below.refl _ _)).mono ?_
    rintro e w1 ⟨a1, k1, rfl, hO1, hb⟩
    have hw1 := hb.size
    have BV := Blk.new w1 #[.int .i64 p, .int .i64 c, .int .i64 h, .int .i64 s] 26
    have hr := hO1.irow.alloc (.cells #[.int .i64 p, .int .i64 c, .int .i64 h, .int .i64 s] 26)
    replace hb := chain_alloc hb (.cells #[.int .i64 p, .int .i64 c, .int .i64 h, .int .i64 s] 26)
    clear hO1
    have hib := fun (W : World) (aX : Option Addr) (kX : Nat) (r : IRow W aX xs) => bearoffNumber_any p c h s aX xs.length kX xs W rfl hle r
    have hsb := fun (W : World) (aX : Option Addr) (kX : Nat) (r : IRow W aX xs) => specBearoffNumber_any p c h s aX xs.length kX xs W rfl hle r
    have hlaw := numbers_law (p := p) (c := c) (h := h) (s := s) (xs := xs)
    have hE0 : bnE p c h s xs = 0 → okP p c h s xs = true ∧ fewB c h = true := by
      intro e
      unfold bnE at e
      split at e
      · rename_i g
        split at e
        · rename_i g2
          exact ⟨g, g2⟩
        · omega
      · rename_i g
        unfold bcE at e
        unfold okP at g
        split at e
        · rename_i g1
          split at e
          · rename_i g2
            rw [g1, g2] at g
            exact absurd rfl g
          · omega
        · omega
    obtain ⟨E, hE⟩ : ∃ E, bnE p c h s xs = E := ⟨_, rfl⟩
    obtain ⟨n0, hn0⟩ : ∃ n, bnI p c h s xs = n := ⟨_, rfl⟩
    rw [hE, hn0] at hib hsb
    have HI := Lib.hid hib
    have HS := Lib.hid hsb
    clear hib hsb
    obtain ⟨bv, hbv⟩ : ∃ bv, w1.heap.size = bv := ⟨_, rfl⟩
    have hbw : w.heap.size ≤ bv := by omega
    obtain ⟨x0, x1, x2, x3, xf, xl⟩ := BV.four
    go_wp2_with fail
    (try rw [hbv] at BV x0 x1 x2 x3 xf xl)
    (try rw [hbv])
    generalize (w1.alloc (.cells #[.int .i64 p, .int .i64 c, .int .i64 h, .int .i64 s] 26)) = w2 at *
    refine (HI.out _ _ _ hr).mono ?_
    rintro e w3 ⟨rfl, hb3⟩
    clear x0 x1 x2 x3 xf xl
    replace BV := BV.below hb3
    replace hb := chain hb hb3
    clear hb3 hr
    obtain ⟨x0, x1, x2, x3, xf, xl⟩ := BV.four
    go_wp2_with fail
    refine (HD.out _ hb).mono ?_
    rintro e w4 ⟨a2, k2, rfl, hO2, hb4⟩
    have hbl := BV.lt
    clear x0 x1 x2 x3 xf xl
    replace BV := BV.below hb4
    replace hb := chain hb hb4
    clear hb4 HD
    obtain ⟨x0, x1, x2, x3, xf, xl⟩ := BV.four
    go_wp2_with fail
    clear x0 x1 x2 x3 xf xl
    have BV2 := (((BV.set (i := 0) (.int .i64 p)).set (i := 1) (.int .i64 c)).set (i := 2) (.int .i64 h)).set (i := 3) (.int .i64 s)
    simp only [List.setIfInBounds_toArray, List.set_cons_zero, List.set_cons_succ] at BV2
    have hO3 := osl_away (g := bv) (v := .int .i64 s) (o := 3) (osl_away (g := bv) (v := .int .i64 h) (o := 2) (osl_away (g := bv) (v := .int .i64 c) (o := 1) (osl_away (g := bv) (v := .int .i64 p) (o := 0) hO2 (by omega)) (by omega)) (by omega)) (by omega)
    have hr := hO3.irow
    replace hb := (((hb.setCell (p := ⟨bv, 0, none⟩) hbw (.int .i64 p)).setCell (p := ⟨bv, 1, none⟩) hbw (.int .i64 c)).setCell (p := ⟨bv, 2, none⟩) hbw (.int .i64 h)).setCell (p := ⟨bv, 3, none⟩) hbw (.int .i64 s)
    replace BV := BV2
    clear BV2 hO2 hO3
    generalize ((((w4.setCell ⟨bv, 0, none⟩ (.int .i64 p)).setCell ⟨bv, 1, none⟩ (.int .i64 c)).setCell ⟨bv, 2, none⟩ (.int .i64 h)).setCell ⟨bv, 3, none⟩ (.int .i64 s)) = w5 at *
    refine (HS.out _ _ _ hr).mono ?_
    rintro e w6 ⟨rfl, hb6⟩
    replace BV := BV.below hb6
    replace hr := hr.below hb6
    replace hb := chain hb hb6
    clear hb6 HI HS
    obtain ⟨x0, x1, x2, x3, xf, xl⟩ := BV.four
    by_cases hz : E = 0
    · subst hz
      obtain ⟨g, gf⟩ := hE0 hE
      obtain ⟨n, N, l1, l2, l3, l4, l5, l6, l7, l8, l9⟩ := hlaw g gf
      rw [l1] at hn0
      subst hn0
      have ha := fun W => bearoffAt_any p c h s n W
      rw [l7, l8] at ha
      have HA := Lib.hid ha
      have hx := fun (W : World) (aX : Option Addr) (kX : Nat) (r : IRow W aX xs) => nextBearoff_any p c h s aX xs.length kX xs W rfl hle r
      have hc := fun W => bearoffCount_any p c h s W
      rw [l2] at hc
      have HC := Lib.hid hc
      have hge : ¬ n ≥ N := by omega
      have hlt : n < N := l4
      have w1_ : IntKind.i64.wrap (N - 1) = N - 1 := IntWalk.i64_in _ (by omega)
      have w2_ : IntKind.i64.wrap (n + 1) = n + 1 := IntWalk.i64_in _ (by omega)
      have hnl : (nxL p c h s xs).length ≤ 1048576 := by
        unfold nxL
        split
        · unfold nxR
          split
          · simp; omega
          · simp; omega
        · simp
      have hm := fun (W : World) (aX : Option Addr) (kX : Nat) (r : IRow W aX (nxL p c h s xs)) => bearoffNumber_any p c h s aX _ kX (nxL p c h s xs) W rfl hnl r
      obtain ⟨nx, hnx⟩ : ∃ nx, nxL p c h s xs = nx := ⟨_, rfl⟩
      obtain ⟨ne, hne⟩ : ∃ ne, nxE p c h s xs = ne := ⟨_, rfl⟩
      rw [hnx] at hx l9 hm hnl
      rw [hne] at hx l9
      have HX := Lib.hid hx
      clear ha hx hc l6 l7 l8 g gf hE hE0 hlaw
      go_wp2_with fail
      refine (HA.out _).mono ?_
      rintro e w8 ⟨a3, k3, rfl, hO3, hb8⟩
      have hr3 := hO3.irow
      clear x0 x1 x2 x3 xf xl
      replace BV := BV.below hb8
      replace hr := hr.below hb8
      replace hb := chain hb hb8
      clear hb8 hO3 HA
      obtain ⟨x0, x1, x2, x3, xf, xl⟩ := BV.four
      go_wp2_with fail
      clear x0 x1 x2 x3 xf xl
      replace BV := BV.drew
      replace hr := hr.drew
      replace hr3 := hr3.drew
      replace hb := hb.drew
      refine wp_region_held_drew (S := fun w' => w'.cell? ⟨bv, 0, none⟩ = some (.int .i64 p) ∧ w'.cell? ⟨bv, 1, none⟩ = some (.int .i64 c) ∧ w'.cell? ⟨bv, 2, none⟩ = some (.int .i64 h) ∧ w'.cell? ⟨bv, 3, none⟩ = some (.int .i64 s)) (by kernel_rfl) ⟨BV.four.1, BV.four.2.1, BV.four.2.2.1, BV.four.2.2.2.1⟩ (fun hHeld => ?_)
      clear hHeld
      generalize w8.drew = vd at *
      have hHeld : vd.cell? ⟨bv, 0, none⟩ = some (.int .i64 p) ∧ vd.cell? ⟨bv, 1, none⟩ = some (.int .i64 c) ∧ vd.cell? ⟨bv, 2, none⟩ = some (.int .i64 h) ∧ vd.cell? ⟨bv, 3, none⟩ = some (.int .i64 s) := ⟨BV.four.1, BV.four.2.1, BV.four.2.2.1, BV.four.2.2.2.1⟩
      refine wpAnyH_take (i := 0) (oi := { dst := some 56, op := _, type := _, pos := _, after := _, guard := _ }) (v := ?_) rfl (by kernel_rfl) (by kernel_rfl) (by kernel_rfl) (fun _ _ _ h => h) (Or.inl ⟨by rfl, ?_⟩) (by assumption) ?_
      rotate_left
      · intro w hSw
        (try dsimp only at hSw)
        go_simp
        (try (with_reducible rfl))
      try simp only [Act.put, List.setIfInBounds_toArray, List.set_cons_zero, List.set_cons_succ]
      refine wpAnyH_take (i := 2) (oi := { dst := some 58, op := _, type := _, pos := _, after := _, guard := _ }) (v := ?_) rfl (by kernel_rfl) (by kernel_rfl) (by kernel_rfl) (fun _ _ _ h => h) (Or.inl ⟨by rfl, ?_⟩) (by assumption) ?_
      rotate_left
      · intro w hSw
        (try dsimp only at hSw)
        go_simp
        (try (with_reducible rfl))
      try simp only [Act.put, List.setIfInBounds_toArray, List.set_cons_zero, List.set_cons_succ]
      refine wpAnyH_ready (rs := [1]) (by kernel_rfl) (by simp) ?_
      refine AllReadyH.cons (o := { dst := some 57, op := _, type := _, pos := _, after := _, guard := _ }) rfl (fun K hK => ?_) AllReadyH.nil
      go_simp
      (try go_wp2_with fail)
      refine hK.out _ _ ⟨(BV.alloc (.cells #[] 2)).four.1, (BV.alloc (.cells #[] 2)).four.2.1, (BV.alloc (.cells #[] 2)).four.2.2.1, (BV.alloc (.cells #[] 2)).four.2.2.2.1⟩ (fun hHeld => ?_)
      clear hK K
      try simp only [Act.put, List.setIfInBounds_toArray, List.set_cons_zero, List.set_cons_succ]
      refine wpAnyH_ready (rs := [3]) (by kernel_rfl) (by simp) ?_
      refine AllReadyH.cons (o := { dst := some 59, op := _, type := _, pos := _, after := _, guard := _ }) rfl (fun K hK => ?_) AllReadyH.nil
      refine step_pushAll rfl (.tmp 57) (.tmp 58) rfl vd.heap.size _ [] rfl (Own.start vd) a2 xs xs.length k2 rfl rfl (hr.alloc (.cells #[] 2)) hx0 (by simp; omega) (by simp) ?_
      intro va w9 hO9 hb9
      rw [List.nil_append] at hO9
      have hb90 : Below vd.heap.size vd w9 := ((Below.refl _ _).alloc (Nat.le_refl _) (.cells #[] 2)).trans hb9
      obtain ⟨aX, kX, rfl⟩ := hO9.form
      have hrX := hO9.osl.irow
      replace BV := BV.below hb90
      replace hr := hr.below hb90
      replace hr3 := hr3.below hb90
      replace hb := chain hb hb90
      clear hO9 hb9 hb90
      refine hK.out _ _ ⟨BV.four.1, BV.four.2.1, BV.four.2.2.1, BV.four.2.2.2.1⟩ (fun hHeld => ?_)
      clear hK K
      try simp only [Act.put, List.setIfInBounds_toArray, List.set_cons_zero, List.set_cons_succ]
      refine wpAnyH_ready (rs := [4]) (by kernel_rfl) (by simp) ?_
      refine AllReadyH.cons (o := { dst := some 60, op := _, type := _, pos := _, after := _, guard := _ }) rfl (fun K hK => ?_) AllReadyH.nil
      go_simp
      refine (HX.out _ _ _ hrX).mono ?_
      rintro e w10 ⟨aN, kN, rfl, hON, hb10⟩
      have hrN := hON.irow
      replace BV := BV.below hb10
      replace hr := hr.below hb10
      replace hr3 := hr3.below hb10
      replace hb := chain hb hb10
      clear hb10 hrX
      (try go_wp2_with fail)
      refine hK.out _ _ ⟨BV.four.1, BV.four.2.1, BV.four.2.2.1, BV.four.2.2.2.1⟩ (fun hHeld => ?_)
      clear hK K
      try simp only [Act.put, List.setIfInBounds_toArray, List.set_cons_zero, List.set_cons_succ]
      refine wpAnyH_take (i := 5) (oi := { dst := some 55, op := _, type := _, pos := _, after := _, guard := _ }) (v := ?_) rfl (by kernel_rfl) (by kernel_rfl) (by kernel_rfl) (fun _ _ _ h => h) (Or.inl ⟨by rfl, ?_⟩) (by assumption) ?_
      rotate_left
      · intro w hSw
        (try dsimp only at hSw)
        go_simp
        (try (with_reducible rfl))
      try simp only [Act.put, List.setIfInBounds_toArray, List.set_cons_zero, List.set_cons_succ]
      refine wpAnyH_take (i := 6) (oi := { dst := some 61, op := _, type := _, pos := _, after := _, guard := _ }) (v := ?_) rfl (by kernel_rfl) (by kernel_rfl) (by kernel_rfl) (fun _ _ _ h => h) (Or.inl ⟨by rfl, ?_⟩) (by assumption) ?_
      rotate_left
      · intro w hSw
        (try dsimp only at hSw)
        go_simp
        (try (with_reducible rfl))
      try simp only [Act.put, List.setIfInBounds_toArray, List.set_cons_zero, List.set_cons_succ]
      refine wpAnyH_take (i := 7) (oi := { dst := some 62, op := _, type := _, pos := _, after := _, guard := _ }) (v := ?_) rfl (by kernel_rfl) (by kernel_rfl) (by kernel_rfl) (fun _ _ _ h => h) (Or.inl ⟨by rfl, ?_⟩) (by assumption) ?_
      rotate_left
      · intro w hSw
        (try dsimp only at hSw)
        go_simp
        (try (with_reducible rfl))
      try simp only [Act.put, List.setIfInBounds_toArray, List.set_cons_zero, List.set_cons_succ]
      refine wpAnyH_take (i := 8) (oi := { dst := some 11, op := _, type := _, pos := _, after := _, guard := _ }) (v := ?_) rfl (by kernel_rfl) (by kernel_rfl) (by kernel_rfl) (fun _ _ _ h => h) (Or.inl ⟨by rfl, ?_⟩) (by assumption) ?_
      rotate_left
      · intro w hSw
        (try dsimp only at hSw)
        go_simp
        (try (with_reducible rfl))
      try simp only [Act.put, List.setIfInBounds_toArray, List.set_cons_zero, List.set_cons_succ]
      refine wpAnyH_take (i := 9) (oi := { dst := some 12, op := _, type := _, pos := _, after := _, guard := _ }) (v := ?_) rfl (by kernel_rfl) (by kernel_rfl) (by kernel_rfl) (fun _ _ _ h => h) (Or.inl ⟨by rfl, ?_⟩) (by assumption) ?_
      rotate_left
      · intro w hSw
        (try dsimp only at hSw)
        go_simp
        (try (with_reducible rfl))
      try simp only [Act.put, List.setIfInBounds_toArray, List.set_cons_zero, List.set_cons_succ]
      refine wpAnyH_done (by kernel_rfl) ?_ _
      obtain ⟨x0, x1, x2, x3, xf, xl⟩ := BV.four
      rcases l9 with ⟨rfl, l9⟩ | ⟨rfl, l9, l10⟩
      · have e9 : (n == N - 1) = true := by rw [beq_iff_eq]; exact l9
        clear hm
        go_wp2_with (first | (go_at_call 41; refine (likeInts_same _ _ _ _ _ xs _ rfl hle hr3 hr).mono ?_; rintro e u11 ⟨rfl, h11⟩; clear x0 x1 x2 x3 xf xl; replace BV := BV.below h11; replace hr := hr.below h11; replace hrN := hrN.below h11; replace hb := chain hb h11; clear h11; obtain ⟨x0, x1, x2, x3, xf, xl⟩ := BV.four) | (go_at_call 22; refine (HC.out _).mono ?_; rintro e u12 ⟨rfl, h12⟩; clear x0 x1 x2 x3 xf xl; replace BV := BV.below h12; replace hrN := hrN.below h12; replace hb := chain hb h12; clear h12; obtain ⟨x0, x1, x2, x3, xf, xl⟩ := BV.four))
        all_goals
          go_ret
          exact ⟨by simp [w1_, l9], hb⟩
      · rw [l9, l10] at hm
        have HM := Lib.hid hm
        clear hm
        go_wp2_with (first | (go_at_call 41; refine (likeInts_same _ _ _ _ _ xs _ rfl hle hr3 hr).mono ?_; rintro e u11 ⟨rfl, h11⟩; clear x0 x1 x2 x3 xf xl; replace BV := BV.below h11; replace hr := hr.below h11; replace hrN := hrN.below h11; replace hb := chain hb h11; clear h11; obtain ⟨x0, x1, x2, x3, xf, xl⟩ := BV.four) | (go_at_call 22; refine (HC.out _).mono ?_; rintro e u12 ⟨rfl, h12⟩; clear x0 x1 x2 x3 xf xl; replace BV := BV.below h12; replace hrN := hrN.below h12; replace hb := chain hb h12; clear h12; obtain ⟨x0, x1, x2, x3, xf, xl⟩ := BV.four) | (go_at_call 30; refine (HM.out _ _ _ hrN).mono ?_; rintro e u13 ⟨rfl, h13⟩; clear x0 x1 x2 x3 xf xl; replace BV := BV.below h13; replace hb := chain hb h13; clear h13; obtain ⟨x0, x1, x2, x3, xf, xl⟩ := BV.four))
        all_goals
          go_ret
          exact ⟨by simp [w2_], hb⟩
    · have hz1 : (E != 0) = true := by rw [bne_iff_ne]; exact hz
      clear hlaw hE0 hE
      go_wp2_with fail
      go_ret
      exact ⟨rfl, hb⟩
set_option maxRecDepth 100000 in
theorem fnNumbers_lifted (os : Os) (started : os.Started) (H : Type) (enc : TypeId × Value → H) :
    ReturnsInHanded {} Try.checked os 10 .any (Rows.fnNumbersSpec.pre6 enc Try.prog Try.f10 Rows.fnNumbersRow.domain false) (Rows.fnNumbersSpec.post enc Try.prog Try.f10 false true false false) := by
  refine returnsInHanded_of_change (C := Try.checked) own started (by kernel_rfl) Try.func10
    (ChangeSpec.witness6 (enc := enc) (C := Try.checked) false ⟨#[], #[.slice none 0 0], []⟩ 8 (by kernel_rfl) (by kernel_rfl) (by kernel_rfl) (by kernel_rfl)) ?_
  intro W base args ds gs before hval0 hW hcnd _
  have hval : ∀ (j : Nat) t v, Try.f10.params[j]? = some t → args[j]? = some v → Value.okWide Try.prog W .any base t v := hval0
  have hW' := hW
  obtain ⟨p, q, hA0, hV, rfl, hfz, hnd⟩ := hW
  have hA : DataW.TrodAll enc Try.prog W 0 (fun _ => true) true Try.f10.params.toList args.toList ds p := hA0
  rw [Try.params10] at hA hval
  obtain ⟨v0, vs0, d0, ds0, p0, q0, hargs, rfl, rfl, h0, r0⟩ := trodAll_cons hA
  obtain ⟨rfl, rfl, rfl⟩ := trodAll_nil r0
  obtain rfl : args = #[v0] := by cases args; simp_all
  obtain ⟨rfl, rfl⟩ := trodVars_none hV
  have k0 := h0
  have lt0 : ∀ x ∈ p0, x.block < W.heap.size := by obtain ⟨m, hm⟩ := k0; exact DataW.trod_lt m _ _ _ hm
  obtain ⟨sa_0, sl_0, sc_0, rfl⟩ := okWide_slice Try.underlying50 (hval 0 50 v0 rfl rfl)
  have hcode_0 : CodeIn W.heap.size W sa_0 sl_0 := by
    obtain ⟨fuel, hf⟩ := h0
    rcases open_ints Try.underlying50 Try.underlying5 (by kernel_rfl) hf with ⟨hcs, _⟩ | ⟨x, l, c, zs, hcs, _, hl, hm, hz, _, hcell, hwz⟩
    · simp [Value.cells] at hcs
      obtain ⟨rfl, rfl, rfl⟩ := hcs
      intro i hi
      omega
    · simp [Value.cells] at hcs
      obtain ⟨rfl, rfl, rfl⟩ := hcs
      exact code_of_ints (by have hz2 := hz; simp at hz2; omega) trivial hcell hwz
  clear hA0 hval0
  refine (fnNumbers_walk sa_0 sl_0 sc_0 W hcode_0).mono fun e W' ⟨he, bel⟩ => ?_
  subst he
  exact ⟨_, rfl, _, _, _, [], _, [], hW', trodAll_mk1 (shut_bool Try.underlying4 _), (trodAll_cons_mk (Below.trod laidOut (by kernel_rfl) (of_decide_eq_true (by kernel_rfl)) k0 bel lt0) trodAll_mk0), rfl, bel.frame _, fun h => by cases h⟩
theorem fnNumbers_holds : Rows.FnNumbersSaid :=
  OpenClaim.holds_of_wide 10 Try.f10 rfl rfl rfl rfl rfl rfl rfl ⟨rfl, rfl, rfl, rfl, rfl⟩ rfl rfl rfl rfl rfl (by kernel_rfl) Try.func10 (by kernel_rfl)
    (of_decide_eq_true (by kernel_rfl)) (by unfold Func.isWrapper; first | (rw [if_pos (by decide +kernel)]; kernel_rfl) | (rw [if_neg (by decide +kernel)]; exact ⟨rfl, rfl⟩))
    (fun os started H enc _ => fnNumbers_lifted os started H enc)
end Go.Proofs.Ythnkckflajkaiaa
