/- The law of chapter 3 on bits and identifiers holds: for every code the law returns true and the code reads behind the call as it read before. No conditions. -/
import Derived.Test.YtkddeoifdecniaaDrawId
import Derived.Test.YtkddeoifdecniaaOther3
import Derived.Test.YtkddeoifdecniaaL03k
import Derived.Test.YtkddeoifdecniaaL03m
import Derived.Test.YtkddeoifdecniaaRbM
import Derived.Test.YtkddeoifdecniaaImpl02d
import Derived.Test.YtkddeoifdecniaaOpen
import Derived.ChangeOld
namespace Go.Proofs.Ytkddeoifdecniaa
open Go.ChangeMaps (open_string shut_string)
open Go.ChangeShapes Go.WideShapes Go.ChangeAt Go.RowKit
set_option linter.unusedVariables false
set_option linter.unusedSimpArgs false
set_option maxRecDepth 4000

theorem code_of_ints {w : World} {x : Addr} {len : Nat} {zs : List Int} (hl : len ≤ zs.length) (_hz : True) (hcell : ∀ i, i < zs.length → w.cell? (x.add i) = some (.int .u8 (zs.getD i 0))) (hwz : ∀ n ∈ zs, (Lit.int .u8 n).wf = true) : CodeIn w.heap.size w (some x) len := by
  intro i hi
  obtain ⟨b, o, spot⟩ := x
  have hc := hcell i (by omega)
  have hspot : spot = none := by
    have hc0 := hcell 0 (by omega)
    simpa [Addr.add] using World.cell?_spot hc0
  subst hspot
  rw [show (⟨b, o, none⟩ : Addr).add i = ⟨b, o + i, none⟩ from by unfold Addr.add; split <;> simp_all] at hc
  have hm : zs.getD i 0 ∈ zs := by
    have : i < zs.length := by omega
    simp [List.getD, this]
  have hw := hwz _ hm
  have hr : 0 ≤ zs.getD i 0 ∧ zs.getD i 0 ≤ 255 := by simpa [Lit.wf, IntKind.min, IntKind.max, IntKind.signed, IntKind.bits] using hw
  exact ⟨b, o, zs.getD i 0, rfl, World.block_lt_of_cell? w _ hc, hc, hr.1, hr.2⟩

theorem cib_full {xs ys zs : List Int} (hx : ∀ x ∈ xs, 0 ≤ x) (hy : ∀ x ∈ ys, 0 ≤ x) : cib 0 (bitsL xs ++ bitsL ys ++ zs) = xs ++ (ys ++ cib 0 zs) := by
  rw [List.append_assoc, cib_bits xs _ hx, cib_bits ys _ hy]
theorem cX_full {p : Int} {xs ys zs : List Int} (hx : ∀ x ∈ xs, 0 ≤ x) (hy : ∀ x ∈ ys, 0 ≤ x) (n1 : xs.length = zOf p) (n2 : ys.length = zOf p) : cX p (bitsL xs ++ bitsL ys ++ zs) = xs ∧ cY p (bitsL xs ++ bitsL ys ++ zs) = ys ∧ 2 * zOf p ≤ (cib 0 (bitsL xs ++ bitsL ys ++ zs)).length := by
  unfold cX cY
  rw [cib_full hx hy]
  refine ⟨?_, ?_, by simp; omega⟩
  · rw [List.take_append_of_le_length (by omega), List.take_of_length_le (by omega)]
  · rw [List.drop_append_of_le_length (by omega), List.drop_of_length_le (by omega), List.nil_append, List.take_append_of_le_length (by omega), List.take_of_length_le (by omega)]
/-- A valid board's identifier and bits give the board again. -/
theorem id_facts {p c h s : Int} {xs ys : List Int} (g : isB p c h s xs ys = true) (t : ByteArray) (ht : (⟨(biS p c h s xs ys).toArray⟩ : ByteArray) = t) :
    rbX p c h s t = xs ∧ rbY p c h s t = ys ∧ rbE p c h s t = 0 ∧ bobX p c h s (bbL p c h s xs ys) = xs ∧ bobY p c h s (bbL p c h s xs ys) = ys ∧ bobE p c h s (bbL p c h s xs ys) = 0 := by
  have hd : t.data.toList = idS (bitsL xs ++ bitsL ys) := by rw [← ht, biS, if_pos g]
  have hB : bbL p c h s xs ys = bitsL xs ++ bitsL ys := by rw [bbL, if_pos g]
  have hsm := biS_small p c h s xs ys
  rw [biS, if_pos g] at hsm
  have hs : t.size ≤ 14 := by
    have : t.size = t.data.toList.length := by simp
    rw [this, hd]
    exact hsm
  obtain ⟨p0, p1, k0, k1, k2, k3, N1, N2, hx, hy, s0, s1, s2, s3⟩ := isB_parts g
  obtain ⟨gv, -, -⟩ := isB_sides g
  obtain ⟨-, -, f7, f8⟩ := isB_fit g
  have hx0 : ∀ x ∈ xs, 0 ≤ x := fun x m => (hx x m).1
  have hy0 : ∀ x ∈ ys, 0 ≤ x := fun x m => (hy x m).1
  have n1 : xs.length = zOf p := by unfold zOf; omega
  have n2 : ys.length = zOf p := by unfold zOf; omega
  have hbin : Bin (bitsL xs ++ bitsL ys) := (bitsL_bin xs).append (bitsL_bin ys)
  have htb : tb t = bitsL xs ++ bitsL ys ++ List.replicate (6 * groupsN (bitsL xs ++ bitsL ys) - (bitsL xs ++ bitsL ys).length) 0 := by rw [tb, hd, sbits_idS _ hbin]
  obtain ⟨c1, c2, c3⟩ := cX_full (p := p) (zs := List.replicate (6 * groupsN (bitsL xs ++ bitsL ys) - (bitsL xs ++ bitsL ys).length) 0) hx0 hy0 n1 n2
  rw [← htb] at c1 c2 c3
  have hok : rbOk p c h s t = true := by
    rw [rbOk, rbB, rbT, c1, c2, g, decide_eq_true c3, hd]
    simp
  have hin : rbIn t = true := by
    rw [rbIn, hd, onlyL_idS _ hbin, decide_eq_true hs]
    rfl
  have hall : rbAll p c h s t = true := by rw [rbAll, gv, hin, hok]; rfl
  have hon : onlyL t.data.toList = true := by rw [hd]; exact onlyL_idS _ hbin
  obtain ⟨d1, d2, d3⟩ := cX_full (p := p) (zs := []) hx0 hy0 n1 n2
  have hcf := cib_full (zs := []) hx0 hy0
  rw [List.append_nil] at d1 d2 d3 hcf
  have htr : trl 0 (bitsL xs ++ bitsL ys) = 0 := by
    have q := trl_bits xs (bitsL ys)
    have q2 := trl_bits ys []
    rw [List.append_nil] at q2
    rw [q, q2]
    rfl
  have hob : okBits p c h s (bitsL xs ++ bitsL ys) = true := by
    rw [okBits, d1, d2, g, decide_eq_true ⟨htr, by rw [hcf]; simp [cib]; omega⟩]
    rfl
  have hib : inBits (bitsL xs ++ bitsL ys) = true := by
    rw [inBits, decide_eq_true (by simp; omega), Bool.true_and]
    exact binB_iff.2 hbin
  have hbb : bobOk p c h s (bitsL xs ++ bitsL ys) = true := by rw [bobOk, gv, hib, hob]; rfl
  rw [hB]
  exact ⟨by rw [rbX, if_pos hall, c1], by rw [rbY, if_pos hall, c2], by rw [rbE, if_pos gv, if_pos hs, if_pos hon, if_pos hok], by rw [bobX, if_pos hbb, d1], by rw [bobY, if_pos hbb, d2], by rw [bobE, if_pos gv, if_pos hib, if_pos hob]⟩
/-- A text that is accepted is the identifier of what it gives. -/
theorem rd_facts (p c h s : Int) (t : ByteArray) : ∃ X Y : List Int, ∃ E : Int, rbX p c h s t = X ∧ rbY p c h s t = Y ∧ rbE p c h s t = E ∧ (E ≠ 0 → X = []) ∧
    (E = 0 → X.length ≤ 1048576 ∧ Y.length ≤ 1048576 ∧ (⟨(biS p c h s X Y).toArray⟩ : ByteArray) = t) := by
  refine ⟨_, _, _, rfl, rfl, rfl, fun hE => ?_, fun hE => ?_⟩
  · by_cases g : rbAll p c h s t = true
    · exfalso
      apply hE
      have g2 := g
      simp only [rbAll, rbIn, Bool.and_eq_true, decide_eq_true_eq] at g2
      rw [rbE, if_pos g2.1, if_pos g2.2.1.1, if_pos g2.2.1.2, if_pos g2.2.2]
    · rw [rbX, if_neg g]
  · have gv : vB p c h s = true := by
      by_cases q : vB p c h s = true
      · exact q
      · rw [rbE, if_neg q] at hE
        omega
    rw [rbE, if_pos gv] at hE
    have hs : t.size ≤ 14 := by
      by_cases q : t.size ≤ 14
      · exact q
      · rw [if_neg q] at hE
        omega
    rw [if_pos hs] at hE
    have hon : onlyL t.data.toList = true := by
      by_cases q : onlyL t.data.toList = true
      · exact q
      · rw [if_neg q] at hE
        omega
    rw [if_pos hon] at hE
    have hok : rbOk p c h s t = true := by
      by_cases q : rbOk p c h s t = true
      · exact q
      · rw [if_neg q] at hE
        omega
    have hall : rbAll p c h s t = true := by simp [rbAll, rbIn, gv, hs, hon, hok]
    rw [rbX, rbY, if_pos hall, if_pos hall]
    have hv := vB_iff.1 gv
    simp only [rbOk, rbB, Bool.and_eq_true, decide_eq_true_eq] at hok
    refine ⟨by simp only [cX, List.length_take, zOf]; omega, by simp only [cY, List.length_take, zOf]; omega, ?_⟩
    rw [biS, if_pos hok.1.2]
    exact bytes_eq.2 hok.2
theorem bigI_any (a : Option Addr) (len cap : Nat) (w : World) :
    Calls Try.prog 12 #[.slice a len cap] w fun e w' => e = .returned (.bool (decide (4096 < (len : Int)))) ∧ w = w' := by
  go_enter Try.func12, Try.ntmps12
  go_wp2
  go_ret
  exact ⟨rfl, rfl⟩
set_option maxRecDepth 8000 in
set_option maxHeartbeats 4000000 in
theorem fnIdentifiers_walk (a : Option Addr) (len cap : Nat) (w : World) (hcode : CodeIn w.heap.size w a len) :
    Calls Try.prog 6 #[.slice a len cap] w fun e w' => e = .returned (.bool true) ∧ Below w.heap.size w w' := by
  by_cases hbig : 4096 < len
  · have f0 : decide (4096 < (len : Int)) = true := by simp; omega
    go_enter Try.func6, Try.ntmps6
    go_wp2_with fail
    refine (bigI_any _ _ _ _).mono ?_
    rintro e w1 ⟨rfl, rfl⟩
    go_wp2
    go_ret
    exact ⟨rfl, Below.refl _ _⟩
  · have f0 : decide (4096 < (len : Int)) = false := by simp; omega
    go_enter Try.func6, Try.ntmps6
    go_wp2_with fail
    refine (bigI_any _ _ _ _).mono ?_
    rintro e w0 ⟨rfl, rfl⟩
    go_wp2_with fail
    refine (drawBoardId_any w.heap.size a len cap w (Nat.le_refl _) (by omega) hcode).mono ?_
    rintro e w1 ⟨p, c, h, s, g1, g2, n1, n2, c1, c2, xs, ys, rfl, hx, hy, l1, l2, R1, R2, hb⟩
    subst hx hy
    replace l1 : xs.length ≤ 1048576 := by omega
    replace l2 : ys.length ≤ 1048576 := by omega
    obtain ⟨BV, BB, hb2, hz⟩ := two_new w1 #[.int .i64 p, .int .i64 c, .int .i64 h, .int .i64 s] #[.slice (some ⟨g1, 0, none⟩) xs.length c1, .slice (some ⟨g2, 0, none⟩) ys.length c2] 25 28
    have r1 := R1.irow.below hb2
    have r2 := R2.irow.below hb2
    replace hb := chain hb hb2
    clear R1 R2 hb2 hz f0
    obtain ⟨x0, x1, x2, x3, xf, xl⟩ := BV.four
    obtain ⟨y0, y1, yf, yl⟩ := BB.two
    go_wp2_with fail
    generalize ((w1.alloc (.cells #[.int .i64 p, .int .i64 c, .int .i64 h, .int .i64 s] 25)).alloc (.cells #[.slice (some ⟨g1, 0, none⟩) xs.length c1, .slice (some ⟨g2, 0, none⟩) ys.length c2] 28)) = v1 at *
    clear x0 x1 x2 x3 xf xl
    clear y0 y1 yf yl
    generalize w1.heap.size = bv at *
    obtain ⟨T, hT⟩ : ∃ T : ByteArray, (⟨(biS p c h s xs ys).toArray⟩ : ByteArray) = T := ⟨_, rfl⟩
    have h1 := fun W z1 z2 => boardId_any p c h s (some ⟨g1, 0, none⟩) (some ⟨g2, 0, none⟩) xs.length ys.length c1 c2 xs ys W rfl rfl l1 l2 z1 z2
    have h2 := fun W z1 z2 => specBoardId_any p c h s (some ⟨g1, 0, none⟩) (some ⟨g2, 0, none⟩) xs.length ys.length c1 c2 xs ys W rfl rfl l1 l2 z1 z2
    have h3 := fun W z1 z2 => specIsBoard_any p c h s (some ⟨g1, 0, none⟩) (some ⟨g2, 0, none⟩) xs.length ys.length c1 c2 xs ys W rfl rfl l1 l2 z1 z2
    rw [hT] at h1 h2
    have H1 := Lib.hid h1
    have H2 := Lib.hid h2
    clear h1 h2
    refine (H1.out _ r1 r2).mono ?_
    rintro e w2 ⟨rfl, hb2⟩
    replace BV := BV.below hb2
    replace BB := BB.below hb2
    replace r1 := r1.below hb2
    replace r2 := r2.below hb2
    have hz_hb2 := hb2.size
    replace hb := chain hb hb2
    clear hb2
    obtain ⟨x0, x1, x2, x3, xf, xl⟩ := BV.four
    obtain ⟨y0, y1, yf, yl⟩ := BB.two
    go_wp2_with fail
    refine (H2.out _ r1 r2).mono ?_
    rintro e w3 ⟨rfl, hb3⟩
    clear x0 x1 x2 x3 xf xl
    clear y0 y1 yf yl
    replace BV := BV.below hb3
    replace BB := BB.below hb3
    replace r1 := r1.below hb3
    replace r2 := r2.below hb3
    have hz_hb3 := hb3.size
    replace hb := chain hb hb3
    clear hb3
    obtain ⟨x0, x1, x2, x3, xf, xl⟩ := BV.four
    obtain ⟨y0, y1, yf, yl⟩ := BB.two
    by_cases g : isB p c h s xs ys = true
    · rw [g] at h3
      have H3 := Lib.hid h3
      obtain ⟨i1, i2, i3, i4, i5, i6⟩ := id_facts g T hT
      have h4 := fun W => readBoardId_any p c h s T W
      rw [i1, i2, i3] at h4
      have h5 := fun W z1 z2 => boardBits_any p c h s (some ⟨g1, 0, none⟩) (some ⟨g2, 0, none⟩) xs.length ys.length c1 c2 xs ys W rfl rfl l1 l2 z1 z2
      have h6 := fun ab kb W (q : IRow W ab (bbL p c h s xs ys)) => boardOfBits_any p c h s ab (bbL p c h s xs ys).length kb (bbL p c h s xs ys) W rfl (by have := bbL_length p c h s xs ys; omega) q
      rw [i4, i5, i6] at h6
      obtain ⟨zs, hzs⟩ : ∃ zs, bbL p c h s xs ys = zs := ⟨_, rfl⟩
      rw [hzs] at h5 h6
      have HRD := Lib.hid h4
      have HBB := Lib.hid h5
      have HOB := Lib.hid h6
      clear h3 h4 h5 h6 i1 i2 i3 i4 i5 i6 hzs hT g H1 H2
      go_wp2_with fail
      refine (H3.out _ r1 r2).mono ?_
      rintro e w4 ⟨rfl, hb4⟩
      clear x0 x1 x2 x3 xf xl
      clear y0 y1 yf yl
      replace BV := BV.below hb4
      replace BB := BB.below hb4
      replace r1 := r1.below hb4
      replace r2 := r2.below hb4
      have hz_hb4 := hb4.size
      replace hb := chain hb hb4
      clear hb4
      obtain ⟨x0, x1, x2, x3, xf, xl⟩ := BV.four
      obtain ⟨y0, y1, yf, yl⟩ := BB.two
      go_wp2_with fail
      refine (HRD.out _).mono ?_
      rintro e w5 ⟨a1, a2, k1, k2, rfl, O1, hb5⟩
      clear x0 x1 x2 x3 xf xl
      clear y0 y1 yf yl
      replace BV := BV.below hb5
      replace BB := BB.below hb5
      replace r1 := r1.below hb5
      replace r2 := r2.below hb5
      have hz_hb5 := hb5.size
      replace hb := chain hb hb5
      clear hb5
      have BX6 := Blk.new w5 #[.slice a1 xs.length k1, .slice a2 ys.length k2] 28
      have hal : Below w5.heap.size w5 (w5.alloc (.cells #[.slice a1 xs.length k1, .slice a2 ys.length k2] 28)) := (Below.refl _ _).alloc (Nat.le_refl _) _
      replace BV := BV.below hal
      replace BB := BB.below hal
      replace r1 := r1.below hal
      replace r2 := r2.below hal
      replace O1 := O1.below hal
      have hz_hal := hal.size
      replace hb := chain hb hal
      clear hal
      obtain ⟨x0, x1, x2, x3, xf, xl⟩ := BV.four
      obtain ⟨y0, y1, yf, yl⟩ := BB.two
      go_wp2_with fail
      clear x0 x1 x2 x3 xf xl
      clear y0 y1 yf yl
      generalize (w5.alloc (.cells #[.slice a1 xs.length k1, .slice a2 ys.length k2] 28)) = wS at *
      generalize w5.heap.size = bx at *
      clear H3 HRD
      obtain ⟨J, hJ⟩ : ∃ J : Act → Act → World → Prop, J = fun a a' w' => ∃ B ab kb b1 b2 m1 m2, a' = ((((((((((a.put (some 39) (.agg #[.int .i64 p, .int .i64 c, .int .i64 h, .int .i64 s])).put (some 40) (.agg #[.int .i64 p, .int .i64 c, .int .i64 h, .int .i64 s])).put (some 41) (.agg #[.slice (some ⟨g1, 0, none⟩) xs.length c1, .slice (some ⟨g2, 0, none⟩) ys.length c2])).put (some 42) (.slice ab zs.length kb)).put (some 43) (.tuple #[.agg #[.slice b1 xs.length m1, .slice b2 ys.length m2], .int .i64 0])).put (some 38) (.tuple #[.agg #[.slice b1 xs.length m1, .slice b2 ys.length m2], .int .i64 0])).put (some 44) (.agg #[.slice b1 xs.length m1, .slice b2 ys.length m2])).put (some 45) (.int .i64 0)).put (some 8) (.pointer (some ⟨B, 0, none⟩))).put (some 9) (.int .i64 0)) ∧ Blk w' B #[.slice b1 xs.length m1, .slice b2 ys.length m2] 28 ∧ IRow w' b1 xs ∧ IRow w' b2 ys ∧ Below wS.heap.size wS w' := ⟨_, rfl⟩
      have HJ := Lib.hid hJ
      clear hJ
      refine wp_region_join J ?_ ?_
      · skip
        refine wp_region_held_drew (S := fun w' => w'.cell? ⟨bv, 0, none⟩ = some (.int .i64 p) ∧ w'.cell? ⟨bv, 1, none⟩ = some (.int .i64 c) ∧ w'.cell? ⟨bv, 2, none⟩ = some (.int .i64 h) ∧ w'.cell? ⟨bv, 3, none⟩ = some (.int .i64 s) ∧ w'.cell? ⟨bv + 1, 0, none⟩ = some (.slice (some ⟨g1, 0, none⟩) xs.length c1) ∧ w'.cell? ⟨bv + 1, 1, none⟩ = some (.slice (some ⟨g2, 0, none⟩) ys.length c2)) (by kernel_rfl) ⟨(BV.below (Below.refl _ _).drew).four.1, (BV.below (Below.refl _ _).drew).four.2.1, (BV.below (Below.refl _ _).drew).four.2.2.1, (BV.below (Below.refl _ _).drew).four.2.2.2.1, (BB.below (Below.refl _ _).drew).two.1, (BB.below (Below.refl _ _).drew).two.2.1⟩ (fun hHeld => ?_)
        clear hHeld
        have hbS : Below wS.heap.size wS wS.drew := (Below.refl _ _).drew
        have hzd := hbS.size
        generalize wS.drew = vd at *
        have hHeld := (show vd.cell? ⟨bv, 0, none⟩ = some (.int .i64 p) ∧ vd.cell? ⟨bv, 1, none⟩ = some (.int .i64 c) ∧ vd.cell? ⟨bv, 2, none⟩ = some (.int .i64 h) ∧ vd.cell? ⟨bv, 3, none⟩ = some (.int .i64 s) ∧ vd.cell? ⟨bv + 1, 0, none⟩ = some (.slice (some ⟨g1, 0, none⟩) xs.length c1) ∧ vd.cell? ⟨bv + 1, 1, none⟩ = some (.slice (some ⟨g2, 0, none⟩) ys.length c2) from ⟨(BV.below hbS).four.1, (BV.below hbS).four.2.1, (BV.below hbS).four.2.2.1, (BV.below hbS).four.2.2.2.1, (BB.below hbS).two.1, (BB.below hbS).two.2.1⟩)
        refine wpAnyH_take (i := 0) (oi := { dst := some 39, op := _, type := _, pos := _, after := _, guard := _ }) (v := ?_) rfl (by kernel_rfl) (by kernel_rfl) (by kernel_rfl) (fun _ _ _ h => absurd h.1 (by simp)) (Or.inl ⟨by rfl, ?_⟩) (by assumption) ?_
        rotate_left
        · intro w hSw
          (try dsimp only at hSw)
          go_simp
          (try (with_reducible rfl))
        try simp only [Act.put, List.setIfInBounds_toArray, List.set_cons_zero, List.set_cons_succ]
        refine wpAnyH_take (i := 1) (oi := { dst := some 40, op := _, type := _, pos := _, after := _, guard := _ }) (v := ?_) rfl (by kernel_rfl) (by kernel_rfl) (by kernel_rfl) (fun _ _ _ h => absurd h.1 (by simp)) (Or.inl ⟨by rfl, ?_⟩) (by assumption) ?_
        rotate_left
        · intro w hSw
          (try dsimp only at hSw)
          go_simp
          (try (with_reducible rfl))
        try simp only [Act.put, List.setIfInBounds_toArray, List.set_cons_zero, List.set_cons_succ]
        refine wpAnyH_take (i := 2) (oi := { dst := some 41, op := _, type := _, pos := _, after := _, guard := _ }) (v := ?_) rfl (by kernel_rfl) (by kernel_rfl) (by kernel_rfl) (fun _ _ _ h => absurd h.1 (by simp)) (Or.inl ⟨by rfl, ?_⟩) (by assumption) ?_
        rotate_left
        · intro w hSw
          (try dsimp only at hSw)
          go_simp
          (try (with_reducible rfl))
        try simp only [Act.put, List.setIfInBounds_toArray, List.set_cons_zero, List.set_cons_succ]
        refine wpAnyH_ready (rs := [3, 8]) (by kernel_rfl) (by simp) ?_
        refine AllReadyH.cons (o := { dst := some 42, op := _, type := _, pos := _, after := _, guard := _ }) rfl (fun K hK => ?_) (AllReadyH.cons (o := { dst := some 8, op := _, type := _, pos := _, after := _, guard := _ }) rfl (fun K hK => ?_) AllReadyH.nil)
        · go_simp
          refine (HBB.out _ (r1.below hbS) (r2.below hbS)).mono ?_
          rintro e wA ⟨ab, kb, rfl, Ob, hbA⟩
          have hz_hbA := hbA.size
          replace hbS := chain hbS hbA
          clear hbA
          (try go_wp2_with fail)
          refine hK.out _ _ ⟨(BV.below hbS).four.1, (BV.below hbS).four.2.1, (BV.below hbS).four.2.2.1, (BV.below hbS).four.2.2.2.1, (BB.below hbS).two.1, (BB.below hbS).two.2.1⟩ (fun hHeld => ?_)
          clear hK K
          try simp only [Act.put, List.setIfInBounds_toArray, List.set_cons_zero, List.set_cons_succ]
          refine wpAnyH_ready (rs := [4, 8]) (by kernel_rfl) (by simp) ?_
          refine AllReadyH.cons (o := { dst := some 43, op := _, type := _, pos := _, after := _, guard := _ }) rfl (fun K hK => ?_) (AllReadyH.cons (o := { dst := some 8, op := _, type := _, pos := _, after := _, guard := _ }) rfl (fun K hK => ?_) AllReadyH.nil)
          · go_simp
            refine (HOB.out _ _ _ Ob.irow).mono ?_
            rintro e wB ⟨b1, b2, m1, m2, rfl, hO, hbB⟩
            have hz_hbB := hbB.size
            replace hbS := chain hbS hbB
            clear hbB
            (try go_wp2_with fail)
            refine hK.out _ _ ⟨(BV.below hbS).four.1, (BV.below hbS).four.2.1, (BV.below hbS).four.2.2.1, (BV.below hbS).four.2.2.2.1, (BB.below hbS).two.1, (BB.below hbS).two.2.1⟩ (fun hHeld => ?_)
            clear hK K
            try simp only [Act.put, List.setIfInBounds_toArray, List.set_cons_zero, List.set_cons_succ]
            refine wpAnyH_take (i := 5) (oi := { dst := some 38, op := _, type := _, pos := _, after := _, guard := _ }) (v := ?_) rfl (by kernel_rfl) (by kernel_rfl) (by kernel_rfl) (fun _ _ _ h => absurd h.1 (by simp)) (Or.inl ⟨by rfl, ?_⟩) (by assumption) ?_
            rotate_left
            · intro w hSw
              (try dsimp only at hSw)
              go_simp
              (try (with_reducible rfl))
            try simp only [Act.put, List.setIfInBounds_toArray, List.set_cons_zero, List.set_cons_succ]
            refine wpAnyH_take (i := 6) (oi := { dst := some 44, op := _, type := _, pos := _, after := _, guard := _ }) (v := ?_) rfl (by kernel_rfl) (by kernel_rfl) (by kernel_rfl) (fun _ _ _ h => absurd h.1 (by simp)) (Or.inl ⟨by rfl, ?_⟩) (by assumption) ?_
            rotate_left
            · intro w hSw
              (try dsimp only at hSw)
              go_simp
              (try (with_reducible rfl))
            try simp only [Act.put, List.setIfInBounds_toArray, List.set_cons_zero, List.set_cons_succ]
            refine wpAnyH_take (i := 7) (oi := { dst := some 45, op := _, type := _, pos := _, after := _, guard := _ }) (v := ?_) rfl (by kernel_rfl) (by kernel_rfl) (by kernel_rfl) (fun _ _ _ h => absurd h.1 (by simp)) (Or.inl ⟨by rfl, ?_⟩) (by assumption) ?_
            rotate_left
            · intro w hSw
              (try dsimp only at hSw)
              go_simp
              (try (with_reducible rfl))
            try simp only [Act.put, List.setIfInBounds_toArray, List.set_cons_zero, List.set_cons_succ]
            refine wpAnyH_ready (rs := [8]) (by kernel_rfl) (by simp) ?_
            refine AllReadyH.cons (o := { dst := some 8, op := _, type := _, pos := _, after := _, guard := _ }) rfl (fun K hK => ?_) AllReadyH.nil
            go_simp
            refine hK.out _ _ ⟨(BV.below (hbS.alloc hbS.size _)).four.1, (BV.below (hbS.alloc hbS.size _)).four.2.1, (BV.below (hbS.alloc hbS.size _)).four.2.2.1, (BV.below (hbS.alloc hbS.size _)).four.2.2.2.1, (BB.below (hbS.alloc hbS.size _)).two.1, (BB.below (hbS.alloc hbS.size _)).two.2.1⟩ (fun hHeld => ?_)
            clear hK K
            try simp only [Act.put, List.setIfInBounds_toArray, List.set_cons_zero, List.set_cons_succ]
            have BA := Blk.new wB #[.slice none 0 0, .slice none 0 0] 28
            have hal : Below wB.heap.size wB (wB.alloc (.cells #[.slice none 0 0, .slice none 0 0] 28)) := (Below.refl _ _).alloc (Nat.le_refl _) _
            have hlN : wB.heap.size + 1 ≤ (wB.alloc (.cells #[.slice none 0 0, .slice none 0 0] 28)).heap.size ∧ (wB.alloc (.cells #[.slice none 0 0, .slice none 0 0] 28)).heap.size ≤ wB.heap.size + 1 := by simp
            have hzS := hbS.size
            replace hO := hO.below hal
            replace hbS := chain hbS hal
            clear hal
            generalize wB.alloc (.cells #[.slice none 0 0, .slice none 0 0] 28) = wN at *
            refine wpAnyH_ready (rs := [9]) (by kernel_rfl) (by simp) ?_
            refine AllReadyH.cons (o := { dst := none, op := _, type := _, pos := _, after := _, guard := _ }) rfl (fun K hK => ?_) AllReadyH.nil
            have q0 := BA.two.1
            have q1 := BA.two.2.1
            have qf := BA.two.2.2.1
            have ql := BA.two.2.2.2
            go_simp
            (try go_wp2_with fail)
            refine hK.out _ _ ⟨(BV.below (below2 BA hbS (by omega))).four.1, (BV.below (below2 BA hbS (by omega))).four.2.1, (BV.below (below2 BA hbS (by omega))).four.2.2.1, (BV.below (below2 BA hbS (by omega))).four.2.2.2.1, (BB.below (below2 BA hbS (by omega))).two.1, (BB.below (below2 BA hbS (by omega))).two.2.1⟩ (fun hHeld => ?_)
            clear hK K
            try simp only [Act.put, List.setIfInBounds_toArray, List.set_cons_zero, List.set_cons_succ]
            refine wpAnyH_take (i := 10) (oi := { dst := some 9, op := _, type := _, pos := _, after := _, guard := _ }) (v := ?_) rfl (by kernel_rfl) (by kernel_rfl) (by kernel_rfl) (fun _ _ _ h => absurd h.1 (by simp)) (Or.inl ⟨by rfl, ?_⟩) (by assumption) ?_
            rotate_left
            · intro w hSw
              (try dsimp only at hSw)
              go_simp
              (try (with_reducible rfl))
            try simp only [Act.put, List.setIfInBounds_toArray, List.set_cons_zero, List.set_cons_succ]
            refine wpAnyH_done (by kernel_rfl) ?_ _
            rw [HJ.out]
            refine ⟨rfl, _, ab, kb, b1, b2, m1, m2, ?_, (BA.set _).set _, ((hO.other (by omega)).other (by omega)).irow1, ((hO.other (by omega)).other (by omega)).irow2, below2 BA hbS (by omega)⟩
            simp only [Act.put, List.setIfInBounds_toArray, List.set_cons_zero, List.set_cons_succ]
          · go_simp
            refine hK.out _ _ ⟨(BV.below (hbS.alloc hbS.size _)).four.1, (BV.below (hbS.alloc hbS.size _)).four.2.1, (BV.below (hbS.alloc hbS.size _)).four.2.2.1, (BV.below (hbS.alloc hbS.size _)).four.2.2.2.1, (BB.below (hbS.alloc hbS.size _)).two.1, (BB.below (hbS.alloc hbS.size _)).two.2.1⟩ (fun hHeld => ?_)
            clear hK K
            try simp only [Act.put, List.setIfInBounds_toArray, List.set_cons_zero, List.set_cons_succ]
            have BA := Blk.new wA #[.slice none 0 0, .slice none 0 0] 28
            have hal : Below wA.heap.size wA (wA.alloc (.cells #[.slice none 0 0, .slice none 0 0] 28)) := (Below.refl _ _).alloc (Nat.le_refl _) _
            have hlN : wA.heap.size + 1 ≤ (wA.alloc (.cells #[.slice none 0 0, .slice none 0 0] 28)).heap.size ∧ (wA.alloc (.cells #[.slice none 0 0, .slice none 0 0] 28)).heap.size ≤ wA.heap.size + 1 := by simp
            have hzS := hbS.size
            replace Ob := Ob.below hal
            replace hbS := chain hbS hal
            clear hal
            generalize wA.alloc (.cells #[.slice none 0 0, .slice none 0 0] 28) = wN at *
            refine wpAnyH_ready (rs := [4]) (by kernel_rfl) (by simp) ?_
            refine AllReadyH.cons (o := { dst := some 43, op := _, type := _, pos := _, after := _, guard := _ }) rfl (fun K hK => ?_) AllReadyH.nil
            go_simp
            refine (HOB.out _ _ _ Ob.irow).mono ?_
            rintro e wB ⟨b1, b2, m1, m2, rfl, hO, hbB⟩
            replace BA := BA.below hbB
            have hz_hbB := hbB.size
            replace hbS := chain hbS hbB
            clear hbB
            (try go_wp2_with fail)
            refine hK.out _ _ ⟨(BV.below hbS).four.1, (BV.below hbS).four.2.1, (BV.below hbS).four.2.2.1, (BV.below hbS).four.2.2.2.1, (BB.below hbS).two.1, (BB.below hbS).two.2.1⟩ (fun hHeld => ?_)
            clear hK K
            try simp only [Act.put, List.setIfInBounds_toArray, List.set_cons_zero, List.set_cons_succ]
            refine wpAnyH_take (i := 5) (oi := { dst := some 38, op := _, type := _, pos := _, after := _, guard := _ }) (v := ?_) rfl (by kernel_rfl) (by kernel_rfl) (by kernel_rfl) (fun _ _ _ h => absurd h.1 (by simp)) (Or.inl ⟨by rfl, ?_⟩) (by assumption) ?_
            rotate_left
            · intro w hSw
              (try dsimp only at hSw)
              go_simp
              (try (with_reducible rfl))
            try simp only [Act.put, List.setIfInBounds_toArray, List.set_cons_zero, List.set_cons_succ]
            refine wpAnyH_take (i := 6) (oi := { dst := some 44, op := _, type := _, pos := _, after := _, guard := _ }) (v := ?_) rfl (by kernel_rfl) (by kernel_rfl) (by kernel_rfl) (fun _ _ _ h => absurd h.1 (by simp)) (Or.inl ⟨by rfl, ?_⟩) (by assumption) ?_
            rotate_left
            · intro w hSw
              (try dsimp only at hSw)
              go_simp
              (try (with_reducible rfl))
            try simp only [Act.put, List.setIfInBounds_toArray, List.set_cons_zero, List.set_cons_succ]
            refine wpAnyH_take (i := 7) (oi := { dst := some 45, op := _, type := _, pos := _, after := _, guard := _ }) (v := ?_) rfl (by kernel_rfl) (by kernel_rfl) (by kernel_rfl) (fun _ _ _ h => absurd h.1 (by simp)) (Or.inl ⟨by rfl, ?_⟩) (by assumption) ?_
            rotate_left
            · intro w hSw
              (try dsimp only at hSw)
              go_simp
              (try (with_reducible rfl))
            try simp only [Act.put, List.setIfInBounds_toArray, List.set_cons_zero, List.set_cons_succ]
            refine wpAnyH_ready (rs := [9]) (by kernel_rfl) (by simp) ?_
            refine AllReadyH.cons (o := { dst := none, op := _, type := _, pos := _, after := _, guard := _ }) rfl (fun K hK => ?_) AllReadyH.nil
            have q0 := BA.two.1
            have q1 := BA.two.2.1
            have qf := BA.two.2.2.1
            have ql := BA.two.2.2.2
            go_simp
            (try go_wp2_with fail)
            refine hK.out _ _ ⟨(BV.below (below2 BA hbS (by omega))).four.1, (BV.below (below2 BA hbS (by omega))).four.2.1, (BV.below (below2 BA hbS (by omega))).four.2.2.1, (BV.below (below2 BA hbS (by omega))).four.2.2.2.1, (BB.below (below2 BA hbS (by omega))).two.1, (BB.below (below2 BA hbS (by omega))).two.2.1⟩ (fun hHeld => ?_)
            clear hK K
            try simp only [Act.put, List.setIfInBounds_toArray, List.set_cons_zero, List.set_cons_succ]
            refine wpAnyH_take (i := 10) (oi := { dst := some 9, op := _, type := _, pos := _, after := _, guard := _ }) (v := ?_) rfl (by kernel_rfl) (by kernel_rfl) (by kernel_rfl) (fun _ _ _ h => absurd h.1 (by simp)) (Or.inl ⟨by rfl, ?_⟩) (by assumption) ?_
            rotate_left
            · intro w hSw
              (try dsimp only at hSw)
              go_simp
              (try (with_reducible rfl))
            try simp only [Act.put, List.setIfInBounds_toArray, List.set_cons_zero, List.set_cons_succ]
            refine wpAnyH_done (by kernel_rfl) ?_ _
            rw [HJ.out]
            refine ⟨rfl, _, ab, kb, b1, b2, m1, m2, ?_, (BA.set _).set _, ((hO.other (by omega)).other (by omega)).irow1, ((hO.other (by omega)).other (by omega)).irow2, below2 BA hbS (by omega)⟩
            simp only [Act.put, List.setIfInBounds_toArray, List.set_cons_zero, List.set_cons_succ]
        · go_simp
          refine hK.out _ _ ⟨(BV.below (hbS.alloc hbS.size _)).four.1, (BV.below (hbS.alloc hbS.size _)).four.2.1, (BV.below (hbS.alloc hbS.size _)).four.2.2.1, (BV.below (hbS.alloc hbS.size _)).four.2.2.2.1, (BB.below (hbS.alloc hbS.size _)).two.1, (BB.below (hbS.alloc hbS.size _)).two.2.1⟩ (fun hHeld => ?_)
          clear hK K
          try simp only [Act.put, List.setIfInBounds_toArray, List.set_cons_zero, List.set_cons_succ]
          have BA := Blk.new vd #[.slice none 0 0, .slice none 0 0] 28
          have hal : Below vd.heap.size vd (vd.alloc (.cells #[.slice none 0 0, .slice none 0 0] 28)) := (Below.refl _ _).alloc (Nat.le_refl _) _
          have hlN : vd.heap.size + 1 ≤ (vd.alloc (.cells #[.slice none 0 0, .slice none 0 0] 28)).heap.size ∧ (vd.alloc (.cells #[.slice none 0 0, .slice none 0 0] 28)).heap.size ≤ vd.heap.size + 1 := by simp
          have hzS := hbS.size
          replace hbS := chain hbS hal
          clear hal
          generalize vd.alloc (.cells #[.slice none 0 0, .slice none 0 0] 28) = wN at *
          refine wpAnyH_ready (rs := [3]) (by kernel_rfl) (by simp) ?_
          refine AllReadyH.cons (o := { dst := some 42, op := _, type := _, pos := _, after := _, guard := _ }) rfl (fun K hK => ?_) AllReadyH.nil
          go_simp
          refine (HBB.out _ (r1.below hbS) (r2.below hbS)).mono ?_
          rintro e wA ⟨ab, kb, rfl, Ob, hbA⟩
          replace BA := BA.below hbA
          have hz_hbA := hbA.size
          replace hbS := chain hbS hbA
          clear hbA
          (try go_wp2_with fail)
          refine hK.out _ _ ⟨(BV.below hbS).four.1, (BV.below hbS).four.2.1, (BV.below hbS).four.2.2.1, (BV.below hbS).four.2.2.2.1, (BB.below hbS).two.1, (BB.below hbS).two.2.1⟩ (fun hHeld => ?_)
          clear hK K
          try simp only [Act.put, List.setIfInBounds_toArray, List.set_cons_zero, List.set_cons_succ]
          refine wpAnyH_ready (rs := [4]) (by kernel_rfl) (by simp) ?_
          refine AllReadyH.cons (o := { dst := some 43, op := _, type := _, pos := _, after := _, guard := _ }) rfl (fun K hK => ?_) AllReadyH.nil
          go_simp
          refine (HOB.out _ _ _ Ob.irow).mono ?_
          rintro e wB ⟨b1, b2, m1, m2, rfl, hO, hbB⟩
          replace BA := BA.below hbB
          have hz_hbB := hbB.size
          replace hbS := chain hbS hbB
          clear hbB
          (try go_wp2_with fail)
          refine hK.out _ _ ⟨(BV.below hbS).four.1, (BV.below hbS).four.2.1, (BV.below hbS).four.2.2.1, (BV.below hbS).four.2.2.2.1, (BB.below hbS).two.1, (BB.below hbS).two.2.1⟩ (fun hHeld => ?_)
          clear hK K
          try simp only [Act.put, List.setIfInBounds_toArray, List.set_cons_zero, List.set_cons_succ]
          refine wpAnyH_take (i := 5) (oi := { dst := some 38, op := _, type := _, pos := _, after := _, guard := _ }) (v := ?_) rfl (by kernel_rfl) (by kernel_rfl) (by kernel_rfl) (fun _ _ _ h => absurd h.1 (by simp)) (Or.inl ⟨by rfl, ?_⟩) (by assumption) ?_
          rotate_left
          · intro w hSw
            (try dsimp only at hSw)
            go_simp
            (try (with_reducible rfl))
          try simp only [Act.put, List.setIfInBounds_toArray, List.set_cons_zero, List.set_cons_succ]
          refine wpAnyH_take (i := 6) (oi := { dst := some 44, op := _, type := _, pos := _, after := _, guard := _ }) (v := ?_) rfl (by kernel_rfl) (by kernel_rfl) (by kernel_rfl) (fun _ _ _ h => absurd h.1 (by simp)) (Or.inl ⟨by rfl, ?_⟩) (by assumption) ?_
          rotate_left
          · intro w hSw
            (try dsimp only at hSw)
            go_simp
            (try (with_reducible rfl))
          try simp only [Act.put, List.setIfInBounds_toArray, List.set_cons_zero, List.set_cons_succ]
          refine wpAnyH_take (i := 7) (oi := { dst := some 45, op := _, type := _, pos := _, after := _, guard := _ }) (v := ?_) rfl (by kernel_rfl) (by kernel_rfl) (by kernel_rfl) (fun _ _ _ h => absurd h.1 (by simp)) (Or.inl ⟨by rfl, ?_⟩) (by assumption) ?_
          rotate_left
          · intro w hSw
            (try dsimp only at hSw)
            go_simp
            (try (with_reducible rfl))
          try simp only [Act.put, List.setIfInBounds_toArray, List.set_cons_zero, List.set_cons_succ]
          refine wpAnyH_ready (rs := [9]) (by kernel_rfl) (by simp) ?_
          refine AllReadyH.cons (o := { dst := none, op := _, type := _, pos := _, after := _, guard := _ }) rfl (fun K hK => ?_) AllReadyH.nil
          have q0 := BA.two.1
          have q1 := BA.two.2.1
          have qf := BA.two.2.2.1
          have ql := BA.two.2.2.2
          go_simp
          (try go_wp2_with fail)
          refine hK.out _ _ ⟨(BV.below (below2 BA hbS (by omega))).four.1, (BV.below (below2 BA hbS (by omega))).four.2.1, (BV.below (below2 BA hbS (by omega))).four.2.2.1, (BV.below (below2 BA hbS (by omega))).four.2.2.2.1, (BB.below (below2 BA hbS (by omega))).two.1, (BB.below (below2 BA hbS (by omega))).two.2.1⟩ (fun hHeld => ?_)
          clear hK K
          try simp only [Act.put, List.setIfInBounds_toArray, List.set_cons_zero, List.set_cons_succ]
          refine wpAnyH_take (i := 10) (oi := { dst := some 9, op := _, type := _, pos := _, after := _, guard := _ }) (v := ?_) rfl (by kernel_rfl) (by kernel_rfl) (by kernel_rfl) (fun _ _ _ h => absurd h.1 (by simp)) (Or.inl ⟨by rfl, ?_⟩) (by assumption) ?_
          rotate_left
          · intro w hSw
            (try dsimp only at hSw)
            go_simp
            (try (with_reducible rfl))
          try simp only [Act.put, List.setIfInBounds_toArray, List.set_cons_zero, List.set_cons_succ]
          refine wpAnyH_done (by kernel_rfl) ?_ _
          rw [HJ.out]
          refine ⟨rfl, _, ab, kb, b1, b2, m1, m2, ?_, (BA.set _).set _, ((hO.other (by omega)).other (by omega)).irow1, ((hO.other (by omega)).other (by omega)).irow2, below2 BA hbS (by omega)⟩
          simp only [Act.put, List.setIfInBounds_toArray, List.set_cons_zero, List.set_cons_succ]
      · intro a' w8 hj
        rw [HJ.out] at hj
        clear HJ
        obtain ⟨B, ab, kb, b1, b2, m1, m2, rfl, BX8, q1, q2, hbS⟩ := hj
        try simp only [Act.put, List.setIfInBounds_toArray, List.set_cons_zero, List.set_cons_succ]
        have o1 := O1.irow1.below hbS
        have o2 := O1.irow2.below hbS
        clear O1 HBB HOB
        replace BV := BV.below hbS
        replace BB := BB.below hbS
        replace BX6 := BX6.below hbS
        replace r1 := r1.below hbS
        replace r2 := r2.below hbS
        have hz_hbS := hbS.size
        replace hb := chain hb hbS
        clear hbS
        have x0 := BB.two
        have x1 := BX6.two
        have x2 := BX8.two
        obtain ⟨y0, y1, yf, yl⟩ := x0
        obtain ⟨u0, u1, uf, ul⟩ := x1
        obtain ⟨t0, t1, tf, tl⟩ := x2
        go_wp2_with fail
        refine (w9Boards_same a1 a2 (some ⟨g1, 0, none⟩) (some ⟨g2, 0, none⟩) xs.length ys.length k1 k2 c1 c2 xs ys _ rfl rfl l1 l2 o1 o2 r1 r2).mono ?_
        rintro e w9 ⟨rfl, hb9⟩
        clear y0 y1 yf yl u0 u1 uf ul t0 t1 tf tl o1 o2 BX6
        replace BB := BB.below hb9
        replace BX8 := BX8.below hb9
        replace r1 := r1.below hb9
        replace r2 := r2.below hb9
        replace q1 := q1.below hb9
        replace q2 := q2.below hb9
        have hz_hb9 := hb9.size
        replace hb := chain hb hb9
        clear hb9
        obtain ⟨y0, y1, yf, yl⟩ := BB.two
        obtain ⟨t0, t1, tf, tl⟩ := BX8.two
        go_wp2_with fail
        refine (w9Boards_same b1 b2 (some ⟨g1, 0, none⟩) (some ⟨g2, 0, none⟩) xs.length ys.length m1 m2 c1 c2 xs ys _ rfl rfl l1 l2 q1 q2 r1 r2).mono ?_
        rintro e w10 ⟨rfl, hb10⟩
        replace hb := chain hb hb10
        clear y0 y1 yf yl t0 t1 tf tl BB BX8 r1 r2 q1 q2 BV hb10
        go_wp2_with fail
        refine (other_any w.heap.size a len cap _ hb.size (by omega) (hcode.below hb)).mono ?_
        rintro e wA ⟨gO, cO, rfl, hgO, hc2, hbA⟩
        replace hb := chain hb hbA
        clear hbA
        go_wp2_with fail
        refine (drawReadId_any wA.heap.size _ (3 + len) cO wA (Nat.le_refl _) (by omega) hc2).mono ?_
        rintro e wB ⟨p2, c2, h2, s2, t, rfl, hbB⟩
        replace hb := chain hb hbB
        clear hbB hc2 hgO
        have BW := Blk.new wB #[.int .i64 p2, .int .i64 c2, .int .i64 h2, .int .i64 s2] 25
        have hal : Below wB.heap.size wB (wB.alloc (.cells #[.int .i64 p2, .int .i64 c2, .int .i64 h2, .int .i64 s2] 25)) := (Below.refl _ _).alloc (Nat.le_refl _) _
        replace hb := chain hb hal
        clear hal
        obtain ⟨X, Y, E, eX, eY, eE, f0, f1⟩ := rd_facts p2 c2 h2 s2 t
        have hR := fun W => readBoardId_any p2 c2 h2 s2 t W
        rw [eX, eY, eE] at hR
        have HR := Lib.hid hR
        clear hR eX eY eE
        obtain ⟨x0, x1, x2, x3, xf, xl⟩ := BW.four
        go_wp2_with fail
        generalize (wB.alloc (.cells #[.int .i64 p2, .int .i64 c2, .int .i64 h2, .int .i64 s2] 25)) = wC at *
        generalize wB.heap.size = bw at *
        refine (HR.out _).mono ?_
        rintro e wD ⟨a5, a6, k5, k6, rfl, O5, hbD⟩
        clear x0 x1 x2 x3 xf xl
        replace BW := BW.below hbD
        have hz_hbD := hbD.size
        replace hb := chain hb hbD
        clear hbD
        have BX := Blk.new wD #[.slice a5 X.length k5, .slice a6 Y.length k6] 28
        have hal : Below wD.heap.size wD (wD.alloc (.cells #[.slice a5 X.length k5, .slice a6 Y.length k6] 28)) := (Below.refl _ _).alloc (Nat.le_refl _) _
        replace BW := BW.below hal
        replace O5 := O5.below hal
        have hz_hal := hal.size
        replace hb := chain hb hal
        clear hal
        generalize hwD : wD.heap.size = bx at *
        obtain ⟨x0, x1, x2, x3, xf, xl⟩ := BW.four
        obtain ⟨y0, y1, yf, yl⟩ := BX.two
        by_cases gE : E = 0
        · subst gE
          obtain ⟨m1, m2, m3⟩ := f1 rfl
          have hI := fun W z1 z2 => boardId_any p2 c2 h2 s2 a5 a6 X.length Y.length k5 k6 X Y W rfl rfl m1 m2 z1 z2
          rw [m3] at hI
          have HI := Lib.hid hI
          clear hI m3 f0 f1
          have q1 := O5.irow1
          have q2 := O5.irow2
          go_wp2_with fail
          rw [hwD] at *
          generalize (wD.alloc (.cells #[.slice a5 X.length k5, .slice a6 Y.length k6] 28)) = wE at *
          refine (HI.out _ q1 q2).mono ?_
          rintro e wF ⟨rfl, hbF⟩
          replace hb := chain hb hbF
          go_wp2_with fail
          go_ret
          exact ⟨rfl, hb⟩
        · have fE : (E != 0) = true := by rw [bne_iff_ne]; exact gE
          have fE2 : (E == 0) = false := by rw [beq_eq_false_iff_ne]; exact gE
          obtain rfl := f0 gE
          rw [show ([] : List Int).length = 0 from rfl] at *
          clear f0 f1 gE HR O5
          go_wp2_with fail
          go_ret
          exact ⟨rfl, hb⟩
    · replace g : isB p c h s xs ys = false := by simpa using g
      rw [g] at h3
      have H3 := Lib.hid h3
      clear h3 hT g H1 H2
      go_wp2_with fail
      refine (H3.out _ r1 r2).mono ?_
      rintro e w4 ⟨rfl, hb4⟩
      replace hb := chain hb hb4
      clear hb4 r1 r2 BV BB x0 x1 x2 x3 xf xl y0 y1 yf yl
      go_wp2_with fail
      refine (other_any w.heap.size a len cap _ hb.size (by omega) (hcode.below hb)).mono ?_
      rintro e wA ⟨gO, cO, rfl, hgO, hc2, hbA⟩
      replace hb := chain hb hbA
      clear hbA
      go_wp2_with fail
      refine (drawReadId_any wA.heap.size _ (3 + len) cO wA (Nat.le_refl _) (by omega) hc2).mono ?_
      rintro e wB ⟨p2, c2, h2, s2, t, rfl, hbB⟩
      replace hb := chain hb hbB
      clear hbB hc2 hgO
      have BW := Blk.new wB #[.int .i64 p2, .int .i64 c2, .int .i64 h2, .int .i64 s2] 25
      have hal : Below wB.heap.size wB (wB.alloc (.cells #[.int .i64 p2, .int .i64 c2, .int .i64 h2, .int .i64 s2] 25)) := (Below.refl _ _).alloc (Nat.le_refl _) _
      replace hb := chain hb hal
      clear hal
      obtain ⟨X, Y, E, eX, eY, eE, f0, f1⟩ := rd_facts p2 c2 h2 s2 t
      have hR := fun W => readBoardId_any p2 c2 h2 s2 t W
      rw [eX, eY, eE] at hR
      have HR := Lib.hid hR
      clear hR eX eY eE
      obtain ⟨x0, x1, x2, x3, xf, xl⟩ := BW.four
      go_wp2_with fail
      generalize (wB.alloc (.cells #[.int .i64 p2, .int .i64 c2, .int .i64 h2, .int .i64 s2] 25)) = wC at *
      generalize wB.heap.size = bw at *
      refine (HR.out _).mono ?_
      rintro e wD ⟨a5, a6, k5, k6, rfl, O5, hbD⟩
      clear x0 x1 x2 x3 xf xl
      replace BW := BW.below hbD
      have hz_hbD := hbD.size
      replace hb := chain hb hbD
      clear hbD
      have BX := Blk.new wD #[.slice a5 X.length k5, .slice a6 Y.length k6] 28
      have hal : Below wD.heap.size wD (wD.alloc (.cells #[.slice a5 X.length k5, .slice a6 Y.length k6] 28)) := (Below.refl _ _).alloc (Nat.le_refl _) _
      replace BW := BW.below hal
      replace O5 := O5.below hal
      have hz_hal := hal.size
      replace hb := chain hb hal
      clear hal
      generalize hwD : wD.heap.size = bx at *
      obtain ⟨x0, x1, x2, x3, xf, xl⟩ := BW.four
      obtain ⟨y0, y1, yf, yl⟩ := BX.two
      by_cases gE : E = 0
      · subst gE
        obtain ⟨m1, m2, m3⟩ := f1 rfl
        have hI := fun W z1 z2 => boardId_any p2 c2 h2 s2 a5 a6 X.length Y.length k5 k6 X Y W rfl rfl m1 m2 z1 z2
        rw [m3] at hI
        have HI := Lib.hid hI
        clear hI m3 f0 f1
        have q1 := O5.irow1
        have q2 := O5.irow2
        go_wp2_with fail
        rw [hwD] at *
        generalize (wD.alloc (.cells #[.slice a5 X.length k5, .slice a6 Y.length k6] 28)) = wE at *
        refine (HI.out _ q1 q2).mono ?_
        rintro e wF ⟨rfl, hbF⟩
        replace hb := chain hb hbF
        go_wp2_with fail
        go_ret
        exact ⟨rfl, hb⟩
      · have fE : (E != 0) = true := by rw [bne_iff_ne]; exact gE
        have fE2 : (E == 0) = false := by rw [beq_eq_false_iff_ne]; exact gE
        obtain rfl := f0 gE
        rw [show ([] : List Int).length = 0 from rfl] at *
        clear f0 f1 gE HR O5
        go_wp2_with fail
        go_ret
        exact ⟨rfl, hb⟩

set_option maxRecDepth 100000 in
theorem fnIdentifiers_lifted (os : Os) (started : os.Started) (H : Type) (enc : TypeId × Value → H) :
    ReturnsInHanded {} Try.checked os 6 .any (Rows.fnIdentifiersSpec.pre6 enc Try.prog Try.f6 Rows.fnIdentifiersRow.domain false) (Rows.fnIdentifiersSpec.post enc Try.prog Try.f6 false true false false) := by
  refine returnsInHanded_of_change (C := Try.checked) own started (by kernel_rfl) Try.func6
    (ChangeSpec.witness6 (enc := enc) (C := Try.checked) false ⟨#[], #[.slice none 0 0], []⟩ 8 (by kernel_rfl) (by kernel_rfl) (by kernel_rfl) (by kernel_rfl)) ?_
  intro W base args ds gs before hval0 hW hcnd _
  have hval : ∀ (j : Nat) t v, Try.f6.params[j]? = some t → args[j]? = some v → Value.okWide Try.prog W .any base t v := hval0
  have hW' := hW
  obtain ⟨p, q, hA0, hV, rfl, hfz, hnd⟩ := hW
  have hA : DataW.TrodAll enc Try.prog W 0 (fun _ => true) true Try.f6.params.toList args.toList ds p := hA0
  rw [Try.params6] at hA hval
  obtain ⟨v0, vs0, d0, ds0, p0, q0, hargs, rfl, rfl, h0, r0⟩ := trodAll_cons hA
  obtain ⟨rfl, rfl, rfl⟩ := trodAll_nil r0
  obtain rfl : args = #[v0] := by cases args; simp_all
  obtain ⟨rfl, rfl⟩ := trodVars_none hV
  have k0 := h0
  have lt0 : ∀ x ∈ p0, x.block < W.heap.size := by obtain ⟨m, hm⟩ := k0; exact DataW.trod_lt m _ _ _ hm
  obtain ⟨sa_0, sl_0, sc_0, rfl⟩ := okWide_slice Try.underlying22 (hval 0 22 v0 rfl rfl)
  have hcode_0 : CodeIn W.heap.size W sa_0 sl_0 := by
    obtain ⟨fuel, hf⟩ := h0
    rcases open_ints Try.underlying22 Try.underlying5 (by kernel_rfl) hf with ⟨hcs, _⟩ | ⟨x, l, c, zs, hcs, _, hl, hm, hz, _, hcell, hwz⟩
    · simp [Value.cells] at hcs
      obtain ⟨rfl, rfl, rfl⟩ := hcs
      intro i hi
      omega
    · simp [Value.cells] at hcs
      obtain ⟨rfl, rfl, rfl⟩ := hcs
      exact code_of_ints (by have hz2 := hz; simp at hz2; omega) trivial hcell hwz
  clear hA0 hval0
  refine (fnIdentifiers_walk sa_0 sl_0 sc_0 W hcode_0).mono fun e W' ⟨he, bel⟩ => ?_
  subst he
  exact ⟨_, rfl, _, _, _, [], _, [], hW', trodAll_mk1 (shut_bool Try.underlying4 _), (trodAll_cons_mk (Below.trod laidOut (by kernel_rfl) (of_decide_eq_true (by kernel_rfl)) k0 bel lt0) trodAll_mk0), rfl, bel.frame _, fun h => by cases h⟩
theorem fnIdentifiers_holds : Rows.FnIdentifiersSaid :=
  OpenClaim.holds_of_wide 6 Try.f6 rfl rfl rfl rfl rfl rfl rfl ⟨rfl, rfl, rfl, rfl, rfl⟩ rfl rfl rfl rfl rfl (by kernel_rfl) Try.func6 (by kernel_rfl)
    (of_decide_eq_true (by kernel_rfl)) (by unfold Func.isWrapper; first | (rw [if_pos (by decide +kernel)]; kernel_rfl) | (rw [if_neg (by decide +kernel)]; exact ⟨rfl, rfl⟩))
    (fun os started H enc _ => fnIdentifiers_lifted os started H enc)
end Go.Proofs.Ytkddeoifdecniaa
