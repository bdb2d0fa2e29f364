/- Contracts of ExactText, of the program and of its model. -/
import Derived.Test.YtenbihglmblalaaDoor09i
import Derived.Test.YtenbihglmblalaaDoorDec
import Derived.Test.YtenbihglmblalaaDoorShelf
import Derived.Lib.LaidTab
import Derived.Lib.AppendIntMem
import Derived.Sort.Grow
namespace Go.Proofs.YtenbihglmblalaaDoor
open Go.ChangeShapes Go.WideShapes Go.ChangeAt Go.RowKit
set_option linter.unusedVariables false
set_option linter.unusedSimpArgs false
set_option maxRecDepth 4000

theorem xvB_prt {S : Nat} {n d : Int} (h : xvB S n d = true) : 0 ≤ d ∧ d < nn S ∧ -1000000000000000000 ≤ n ∧ n ≤ 1000000000000000000 := by
  unfold xvB at h
  simp only [decide_eq_true_eq] at h
  exact ⟨h.1, h.2.1, h.2.2.1, h.2.2.2.1⟩
theorem vB_sd {p c h s : Int} (g : vB p c h s = true) : ∃ S : Nat, s = (S : Int) ∧ 1 ≤ S ∧ S ≤ 6 := by
  have := vB_iff.1 g
  exact ⟨s.toNat, by omega, by omega, by omega⟩
/-- The text of an exact number. -/
def xtL (S : Nat) (n d : Int) : List UInt8 := if d = 0 then Lib.itoa n else Lib.itoa n ++ ([47] ++ Lib.itoa ((scN S d.toNat : Nat) : Int))
def etT (p c h s n d : Int) : List UInt8 := if exB p c h s n d = true then xtL s.toNat n d else []
/-- The library's table of powers of ten lies in its variable. -/
def T10 (w : World) : Prop := Lib.TabIs Tryd.prog w "internal/strconv.uint64pow10" .u64 Lib.pow10Tab
theorem T10.drew {w : World} (h : T10 w) : T10 w.drew := h
theorem T10.below {w w' : World} (h : T10 w) (hb : Below w.heap.size w w') : T10 w' := Lib.tabBelow_of_tabIs h w' hb
theorem itoa_len {n : Int} (h0 : -9223372036854775808 ≤ n) (h1 : n ≤ 9223372036854775807) : (Lib.itoa n).length ≤ 21 := by
  unfold Lib.itoa
  split
  · have := dec_length 20 n.natAbs (by omega) (by omega)
    simp only [List.length_cons]
    omega
  · have := dec_length 20 n.toNat (by omega) (by omega)
    omega
theorem grow_below (w : World) (os : Array Obj) : Below w.heap.size w (Go.Sort.grow w os) := ⟨rfl, rfl, rfl, by simp, fun i hi => by show (w.heap ++ os)[i]? = _; rw [Array.getElem?_append_left hi]⟩
theorem fmt_gen (n : Int) (h0 : -9223372036854775808 ≤ n) (h1 : n ≤ 9223372036854775807) (w : World) (ht : T10 w) :
    Calls Tryd.prog 36 #[.int .i64 n, .int .i64 10] w fun e w' => e = .returned (.string ⟨(Lib.itoa n).toArray⟩) ∧ Below w.heap.size w w' := by
  refine (Tryd.strconv_FormatInt_10 n h0 h1 w ht).mono ?_
  rintro e w' ⟨rfl, k, os, rfl⟩
  exact ⟨rfl, (below_drewN (Below.refl _ w) k).trans ((grow_below (w.drewN k) os).mono (below_drewN (Below.refl w.heap.size w) k).size)⟩
set_option maxRecDepth 8000 in
set_option maxHeartbeats 1000000 in
theorem scText_any (b S : Nat) (hS : 1 ≤ S ∧ S ≤ 6) (xn xd : Int) (hv : xvB S xn xd = true) (w : World) (HS : ScM w b S (nn S)) (ht : T10 w) :
    Calls Tryd.prog 16 #[.map (some b), .agg #[.int .i64 xn, .int .i64 xd]] w fun e w' => e = .returned (.string ⟨(xtL S xn xd).toArray⟩) ∧ Below w.heap.size w w' := by
  obtain ⟨q1, q2, q3, q4⟩ := xvB_prt hv
  have hn61 := (nn_range hS).2
  have BX := Blk.new w #[.int .i64 xn, .int .i64 xd] 27
  have hb : Below w.heap.size w (w.alloc (.cells #[.int .i64 xn, .int .i64 xd] 27)) := (Below.refl _ _).alloc (Nat.le_refl _) _
  replace HS := HS.alloc (.cells #[.int .i64 xn, .int .i64 xd] 27)
  replace ht := ht.below hb
  have hf1 := fun W (t : T10 W) => fmt_gen xn (by omega) (by omega) W t
  have hl1 := itoa_len (n := xn) (by omega) (by omega)
  obtain ⟨T, hT⟩ : ∃ T : ByteArray, ⟨(Lib.itoa xn).toArray⟩ = T := ⟨_, rfl⟩
  have hTs : T.size ≤ 21 := by rw [← hT]; exact hl1
  obtain ⟨a0, a1, af, al⟩ := BX.two
  by_cases h0 : xd = 0
  · subst h0
    unfold xtL
    rw [if_pos rfl, hT]
    rw [hT] at hf1
    have HF1 := Lib.hid hf1
    clear hf1 hl1 hT hTs hv q1 q2 q3 q4 hn61 hS
    go_enter Tryd.func16, Tryd.ntmps16
    go_wp2_with (first | (go_at_call 36; refine (HF1.out _ ht).mono ?_; clear HF1; rintro e w1 ⟨rfl, hb1⟩; clear a0 a1 af al; replace BX := BX.below hb1; replace HS := HS.below hb1; replace ht := ht.below hb1; replace hb := chain hb hb1; clear hb1; obtain ⟨a0, a1, af, al⟩ := BX.two))
    go_ret
    exact ⟨rfl, hb⟩
  · have hne : (xd != 0) = true := by rw [bne_iff_ne]; exact h0
    have hsc := scN_in hS (show xd.toNat < nn S by omega)
    have hA : scA S (nn S) xd = ((scN S xd.toNat : Nat) : Int) := by rw [scA, if_pos ⟨q1, by omega⟩]
    unfold xtL
    rw [if_neg h0]
    obtain ⟨Z, hZ⟩ : ∃ Z : Int, ((scN S xd.toNat : Nat) : Int) = Z := ⟨_, rfl⟩
    have hZ0 : 0 ≤ Z := by omega
    have hZ1 : Z ≤ 1000000000000000 := by omega
    rw [hZ] at hA ⊢
    have hf2 := fun W (t : T10 W) => fmt_gen Z (by omega) (by omega) W t
    have hl2 := itoa_len (n := Z) (by omega) (by omega)
    obtain ⟨U, hU⟩ : ∃ U : ByteArray, ⟨(Lib.itoa Z).toArray⟩ = U := ⟨_, rfl⟩
    have hUs : U.size ≤ 21 := by rw [← hU]; exact hl2
    rw [hT] at hf1
    rw [hU] at hf2
    obtain ⟨t1, e1, s1, k1⟩ := cat_rn (a := ⟨#[47]⟩) (b := U) (m := 1) (n := 21) (by decide) hUs (by omega)
    obtain ⟨t2, e2, s2, k2⟩ := cat_rn (a := T) (b := t1) hTs s1 (by omega)
    have e0 : (⟨(Lib.itoa xn ++ ([47] ++ Lib.itoa Z)).toArray⟩ : ByteArray) = t2 := by
      rw [e2, e1, ← hT, ← hU]
      apply ByteArray.ext
      simp [ByteArray.data_append]
    rw [e0]
    have hxd : -9223372036854775808 ≤ xd ∧ xd ≤ 9223372036854775807 := by omega
    have HF1 := Lib.hid hf1
    have HF2 := Lib.hid hf2
    clear hf1 hf2 hl1 hl2 hT hU hTs hUs hv q1 q2 q3 q4 hn61 hS hZ hsc e0 e1 e2 s1 s2 h0
    go_enter Tryd.func16, Tryd.ntmps16
    go_wp2_with (first | (go_at_call 36; refine (HF1.out _ ht).mono ?_; clear HF1; rintro e w1 ⟨rfl, hb1⟩; clear a0 a1 af al; replace BX := BX.below hb1; replace HS := HS.below hb1; replace ht := ht.below hb1; replace hb := chain hb hb1; clear hb1; obtain ⟨a0, a1, af, al⟩ := BX.two) | (at_lookup; refine wp_scale _ rfl _ _ rfl b S (nn S) rfl HS _ rfl hxd ?_) | (go_at_call 36; refine (HF2.out _ ht).mono ?_; clear HF2; rintro e w2 ⟨rfl, hb2⟩; clear a0 a1 af al; replace BX := BX.below hb2; replace HS := HS.below hb2; replace ht := ht.below hb2; replace hb := chain hb hb2; clear hb2; obtain ⟨a0, a1, af, al⟩ := BX.two))
    go_ret
    exact ⟨rfl, hb⟩
set_option maxRecDepth 8000 in
set_option maxHeartbeats 1000000 in
theorem implExactText_any (p c h s xn xd : Int) (hxd : -9223372036854775808 ≤ xd ∧ xd ≤ 9223372036854775807) (w : World) (ht : T10 w) :
    Calls Tryd.prog 6 #[.agg #[.int .i64 p, .int .i64 c, .int .i64 h, .int .i64 s], .agg #[.int .i64 xn, .int .i64 xd]] w fun e w' => e = .returned (.string ⟨(etT p c h s xn xd).toArray⟩) ∧ Below w.heap.size w w' := by
  have hsf : ∀ (g : Nat) (W : World), Blk W g #[.int .i64 xn, .int .i64 xd] 27 → Calls Tryd.prog 15 #[.agg #[.int .i64 p, .int .i64 c, .int .i64 h, .int .i64 s], .slice (some ⟨g, 0, none⟩) 1 1] W (ScGot s (sfC p c h s [(xn, xd)]) W) := fun g W B => scalesFor_any p c h s (some ⟨g, 0, none⟩) [(xn, xd)] 1 W (by simp) (OX.one B) (by simpa using hxd)
  have hone := sfC_one p c h s xn xd
  by_cases h0 : sfC p c h s [(xn, xd)] = 0
  · obtain ⟨g, hall⟩ := sfC_zero h0
    obtain ⟨S, rfl, hS⟩ := vB_sd g
    have q1 := hall (xn, xd) (by simp)
    rw [Int.toNat_natCast] at q1
    rw [h0] at hsf hone
    have ev : etT p c h (S : Int) xn xd = xtL S xn xd := by unfold etT; rw [if_pos (by rw [← hone]; rfl), Int.toNat_natCast]
    rw [ev]
    have HSF := Lib.hid hsf
    have hmi := fun b W (H : ScM W b S (nn S)) (t : T10 W) => scText_any b S hS xn xd q1 W H t
    obtain ⟨X, hX⟩ : ∃ X : ByteArray, ⟨(xtL S xn xd).toArray⟩ = X := ⟨_, rfl⟩
    rw [hX] at hmi ⊢
    have HMI := Lib.hid hmi
    clear hsf ev h0 g hall q1 hX hmi hS hone
    obtain ⟨BV, BX, hb, hz⟩ := two_new w #[.int .i64 p, .int .i64 c, .int .i64 h, .int .i64 (S : Int)] #[.int .i64 xn, .int .i64 xd] 25 27
    obtain ⟨x0, x1, x2, x3, xf, xl⟩ := BV.four
    obtain ⟨a0, a1, af, al⟩ := BX.two
    go_enter Tryd.func6, Tryd.ntmps6
    go_wp2_with fail
    clear x0 x1 x2 x3 xf xl a0 a1 af al
    replace ht := ht.below hb
    generalize ((w.alloc (.cells #[.int .i64 p, .int .i64 c, .int .i64 h, .int .i64 (S : Int)] 25)).alloc (.cells #[.int .i64 xn, .int .i64 xd] 27)) = v0 at *
    have BL := Blk.new v0 #[.int .i64 xn, .int .i64 xd] 27
    rw [hz] at BL
    replace BV := BV.alloc (.cells #[.int .i64 xn, .int .i64 xd] 27)
    replace BX := BX.alloc (.cells #[.int .i64 xn, .int .i64 xd] 27)
    replace ht := ht.below ((Below.refl _ _).alloc (Nat.le_refl _) (.cells #[.int .i64 xn, .int .i64 xd] 27))
    replace hb := chain_alloc hb (.cells #[.int .i64 xn, .int .i64 xd] 27)
    refine (HSF.out _ _ BL).mono ?_
    rintro e w1 ⟨mv, rfl, hm, -, hb1⟩
    obtain ⟨b, rfl, HS⟩ := hm rfl
    rw [Int.toNat_natCast] at HS
    replace BV := BV.below hb1
    replace BX := BX.below hb1
    replace ht := ht.below hb1
    replace hb := chain hb hb1
    clear hb1 hm HSF
    obtain ⟨x0, x1, x2, x3, xf, xl⟩ := BV.four
    obtain ⟨a0, a1, af, al⟩ := BX.two
    go_wp2_with (go_at_call 16; refine (HMI.out _ _ HS ht).mono ?_; rintro e w2 ⟨rfl, hb2⟩)
    go_ret
    exact ⟨rfl, chain hb hb2⟩
  · have ev : etT p c h s xn xd = [] := by unfold etT; rw [if_neg]; rw [← hone, beq_iff_eq]; exact h0
    rw [ev]
    obtain ⟨r, hr⟩ : ∃ r, sfC p c h s [(xn, xd)] = r := ⟨_, rfl⟩
    rw [hr] at hsf h0
    have f0 : (r != 0) = true := by rw [bne_iff_ne]; exact h0
    have HSF := Lib.hid hsf
    have HR0 := Lib.hid h0
    clear hsf ev hr h0 hone
    obtain ⟨BV, BX, hb, hz⟩ := two_new w #[.int .i64 p, .int .i64 c, .int .i64 h, .int .i64 s] #[.int .i64 xn, .int .i64 xd] 25 27
    obtain ⟨x0, x1, x2, x3, xf, xl⟩ := BV.four
    obtain ⟨a0, a1, af, al⟩ := BX.two
    go_enter Tryd.func6, Tryd.ntmps6
    go_wp2_with fail
    clear x0 x1 x2 x3 xf xl a0 a1 af al
    replace ht := ht.below hb
    generalize ((w.alloc (.cells #[.int .i64 p, .int .i64 c, .int .i64 h, .int .i64 s] 25)).alloc (.cells #[.int .i64 xn, .int .i64 xd] 27)) = v0 at *
    have BL := Blk.new v0 #[.int .i64 xn, .int .i64 xd] 27
    rw [hz] at BL
    replace BV := BV.alloc (.cells #[.int .i64 xn, .int .i64 xd] 27)
    replace BX := BX.alloc (.cells #[.int .i64 xn, .int .i64 xd] 27)
    replace ht := ht.below ((Below.refl _ _).alloc (Nat.le_refl _) (.cells #[.int .i64 xn, .int .i64 xd] 27))
    replace hb := chain_alloc hb (.cells #[.int .i64 xn, .int .i64 xd] 27)
    refine (HSF.out _ _ BL).mono ?_
    rintro e w1 ⟨mv, rfl, -, hm, hb1⟩
    have hm2 := hm HR0.out
    subst hm2
    replace hb := chain hb hb1
    clear hb1 hm HSF HR0
    go_wp2_with fail
    go_ret
    exact ⟨rfl, hb⟩
set_option maxRecDepth 8000 in
set_option maxHeartbeats 1000000 in
theorem specExactText_any (p c h s xn xd : Int) (hxd : -9223372036854775808 ≤ xd ∧ xd ≤ 9223372036854775807) (w : World) :
    Calls Tryd.prog 13 #[.agg #[.int .i64 p, .int .i64 c, .int .i64 h, .int .i64 s], .agg #[.int .i64 xn, .int .i64 xd]] w fun e w' => e = .returned (.string ⟨(etT p c h s xn xd).toArray⟩) ∧ Below w.heap.size w w' := by
  have hi := fun W => specIsExact_any p c h s xn xd hxd W
  unfold etT
  cases z : exB p c h s xn xd with
  | false =>
    rw [z] at hi
    simp only [Bool.false_eq_true, if_false]
    obtain ⟨BV, BX, hb, hz⟩ := two_new w #[.int .i64 p, .int .i64 c, .int .i64 h, .int .i64 s] #[.int .i64 xn, .int .i64 xd] 25 27
    have HI := Lib.hid hi
    clear hi z
    obtain ⟨x0, x1, x2, x3, xf, xl⟩ := BV.four
    obtain ⟨a0, a1, af, al⟩ := BX.two
    go_enter Tryd.func13, Tryd.ntmps13
    go_wp2_with (first | (go_at_call 7; refine (HI.out _).mono ?_; clear HI; rintro e wq ⟨rfl, hbq⟩; clear x0 x1 x2 x3 xf xl a0 a1 af al; replace BV := BV.below hbq; replace BX := BX.below hbq; replace hb := chain hb hbq; clear hbq; obtain ⟨x0, x1, x2, x3, xf, xl⟩ := BV.four; obtain ⟨a0, a1, af, al⟩ := BX.two))
    go_ret
    exact ⟨rfl, hb⟩
  | true =>
    rw [z] at hi
    simp only [if_true]
    have z2 := z
    simp only [exB, Bool.and_eq_true] at z2
    obtain ⟨S, rfl, hS⟩ := vB_sd z2.1
    rw [Int.toNat_natCast] at z2 ⊢
    obtain ⟨q1, q2, q3, q4⟩ := xvB_prt z2.2
    have hn61 := (nn_range hS).2
    have hd1 := fun W => l09Decimal_any xn W (by omega) (by omega)
    have hl1 := itoa_len (n := xn) (by omega) (by omega)
    obtain ⟨T, hT⟩ : ∃ T : ByteArray, ⟨(Lib.itoa xn).toArray⟩ = T := ⟨_, rfl⟩
    have hTs : T.size ≤ 21 := by rw [← hT]; exact hl1
    obtain ⟨BV, BX, hb, hz⟩ := two_new w #[.int .i64 p, .int .i64 c, .int .i64 h, .int .i64 (S : Int)] #[.int .i64 xn, .int .i64 xd] 25 27
    unfold xtL
    by_cases h0 : xd = 0
    · subst h0
      rw [if_pos rfl, hT]
      rw [hT] at hd1
      have HI := Lib.hid hi
      have HD1 := Lib.hid hd1
      clear hi z z2 hd1 hl1 hT hTs q1 q2 q3 q4 hn61 hS
      obtain ⟨x0, x1, x2, x3, xf, xl⟩ := BV.four
      obtain ⟨a0, a1, af, al⟩ := BX.two
      go_enter Tryd.func13, Tryd.ntmps13
      go_wp2_with (first | (go_at_call 7; refine (HI.out _).mono ?_; clear HI; rintro e wq ⟨rfl, hbq⟩; clear x0 x1 x2 x3 xf xl a0 a1 af al; replace BV := BV.below hbq; replace BX := BX.below hbq; replace hb := chain hb hbq; clear hbq; obtain ⟨x0, x1, x2, x3, xf, xl⟩ := BV.four; obtain ⟨a0, a1, af, al⟩ := BX.two) | (go_at_call 28; refine (HD1.out _).mono ?_; clear HD1; rintro e wq ⟨rfl, hbq⟩; clear x0 x1 x2 x3 xf xl a0 a1 af al; replace BV := BV.below hbq; replace BX := BX.below hbq; replace hb := chain hb hbq; clear hbq; obtain ⟨x0, x1, x2, x3, xf, xl⟩ := BV.four; obtain ⟨a0, a1, af, al⟩ := BX.two))
      go_ret
      exact ⟨rfl, hb⟩
    · have hne : (xd == 0) = false := by rw [beq_eq_false_iff_ne]; exact h0
      have hsc := scN_in hS (show xd.toNat < nn S by omega)
      have hs := fun W => l09Scale_any p c h S hS xd hxd.2 W
      have hslb : slB S xd = true := by unfold slB; rw [decide_eq_true_eq]; omega
      have hslv : slV S xd = ((scN S xd.toNat : Nat) : Int) := slV_is hslb (.inl rfl)
      rw [hslb, hslv] at hs
      rw [if_neg h0]
      obtain ⟨Z, hZ⟩ : ∃ Z : Int, ((scN S xd.toNat : Nat) : Int) = Z := ⟨_, rfl⟩
      have hZ0 : 0 ≤ Z := by omega
      have hZ1 : Z ≤ 1000000000000000 := by omega
      rw [hZ] at hs ⊢
      have hd2 := fun W => l09Decimal_any Z W (by omega) (by omega)
      have hl2 := itoa_len (n := Z) (by omega) (by omega)
      obtain ⟨U, hU⟩ : ∃ U : ByteArray, ⟨(Lib.itoa Z).toArray⟩ = U := ⟨_, rfl⟩
      have hUs : U.size ≤ 21 := by rw [← hU]; exact hl2
      rw [hT] at hd1
      rw [hU] at hd2
      obtain ⟨t1, e1, s1, k1⟩ := cat_rn (a := T) (b := ⟨#[47]⟩) (m := 21) (n := 1) hTs (by decide) (by omega)
      obtain ⟨t2, e2, s2, k2⟩ := cat_rn (a := t1) (b := U) s1 hUs (by omega)
      have e0 : (⟨(Lib.itoa xn ++ ([47] ++ Lib.itoa Z)).toArray⟩ : ByteArray) = t2 := by
        rw [e2, e1, ← hT, ← hU]
        apply ByteArray.ext
        simp [ByteArray.data_append]
      rw [e0]
      have HI := Lib.hid hi
      have HD1 := Lib.hid hd1
      have HD2 := Lib.hid hd2
      have HSC := Lib.hid hs
      clear hi z z2 hd1 hd2 hs hl1 hl2 hT hU hTs hUs q1 q2 q3 q4 hn61 hS hZ hsc hslb hslv e0 e1 e2 s1 s2 h0
      obtain ⟨x0, x1, x2, x3, xf, xl⟩ := BV.four
      obtain ⟨a0, a1, af, al⟩ := BX.two
      go_enter Tryd.func13, Tryd.ntmps13
      go_wp2_with (first | (go_at_call 7; refine (HI.out _).mono ?_; clear HI; rintro e wq ⟨rfl, hbq⟩; clear x0 x1 x2 x3 xf xl a0 a1 af al; replace BV := BV.below hbq; replace BX := BX.below hbq; replace hb := chain hb hbq; clear hbq; obtain ⟨x0, x1, x2, x3, xf, xl⟩ := BV.four; obtain ⟨a0, a1, af, al⟩ := BX.two) | (go_at_call 26; refine (HSC.out _).mono ?_; clear HSC; rintro e wq ⟨rfl, hbq⟩; clear x0 x1 x2 x3 xf xl a0 a1 af al; replace BV := BV.below hbq; replace BX := BX.below hbq; replace hb := chain hb hbq; clear hbq; obtain ⟨x0, x1, x2, x3, xf, xl⟩ := BV.four; obtain ⟨a0, a1, af, al⟩ := BX.two) | (go_at_call 28; refine (HD1.out _).mono ?_; clear HD1; rintro e wq ⟨rfl, hbq⟩; clear x0 x1 x2 x3 xf xl a0 a1 af al; replace BV := BV.below hbq; replace BX := BX.below hbq; replace hb := chain hb hbq; clear hbq; obtain ⟨x0, x1, x2, x3, xf, xl⟩ := BV.four; obtain ⟨a0, a1, af, al⟩ := BX.two) | (go_at_call 28; refine (HD2.out _).mono ?_; clear HD2; rintro e wq ⟨rfl, hbq⟩; clear x0 x1 x2 x3 xf xl a0 a1 af al; replace BV := BV.below hbq; replace BX := BX.below hbq; replace hb := chain hb hbq; clear hbq; obtain ⟨x0, x1, x2, x3, xf, xl⟩ := BV.four; obtain ⟨a0, a1, af, al⟩ := BX.two))
      go_ret
      exact ⟨rfl, hb⟩
end Go.Proofs.YtenbihglmblalaaDoor
