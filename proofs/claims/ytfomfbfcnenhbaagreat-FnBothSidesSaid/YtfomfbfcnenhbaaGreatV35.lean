/- Texts of a proof, laid together. -/
import Derived.Test.YtfomfbfcnenhbaaGreatV32
import Derived.Test.YtfomfbfcnenhbaaGreatV33
import Derived.Test.YtfomfbfcnenhbaaGreatV34
namespace Go.Proofs.YtfomfbfcnenhbaaGreat
open Go.ChangeShapes Go.WideShapes Go.ChangeAt Go.RowKit
set_option linter.unusedVariables false
set_option linter.unusedSimpArgs false
set_option maxRecDepth 4000
def exO (S : Nat) (o : Option Int) : Int × Int × Int := match o with
  | none => (0, 0, 3)
  | some P => xo3 (rdX S P (dm S)) 3
theorem PV.ex {S : Nat} {o : Option Int} {y cd : Int} (h : PV S o y cd) : exV S y cd = exO S o := by
  unfold PV at h
  unfold exV exO
  cases o with
  | none => dsimp only at h ⊢; rw [if_neg (by omega), h.1]
  | some x => dsimp only at h ⊢; rw [if_pos h.2, h.1]
theorem rc_ready {p c h s : Int} {xs ys : List Int} (e : rcB p c h s xs ys = 0) : ∃ S : Nat, s = (S : Int) ∧ (1 ≤ S ∧ S ≤ 6) ∧ Ps p c h (S : Int) xs ∧ Ps p c h (S : Int) ys ∧ cnt h.toNat c.toNat ≤ 500 ∧ fewB c h = true := by
  obtain ⟨hx, hy, hc⟩ := rcB_zero e
  have hv := vB_iff.1 (okP_v hx).1
  obtain ⟨S, rfl⟩ : ∃ S : Nat, s = (S : Int) := ⟨s.toNat, by omega⟩
  exact ⟨S, rfl, by omega, hx, hy, hc, by rw [fewB, decide_eq_true_iff]; omega⟩
theorem Tb.in_of {t : Tb} {xs ys : List Int} (hx : Ps t.p t.c t.h (t.S : Int) xs) (hy : Ps t.p t.c t.h (t.S : Int) ys) (hc : cnt t.h.toNat t.c.toNat ≤ 500) (hK : t.K = max (nm t.c xs) (nm t.c ys) + 1) : t.In xs ∧ t.In ys ∧ t.K ≤ 1000 := by
  have h1 := nm_lt hx
  have h2 := nm_lt hy
  exact ⟨⟨hx, by omega⟩, ⟨hy, by omega⟩, by omega⟩
theorem winChance_in {t : Tb} (hS : 1 ≤ t.S ∧ t.S ≤ 6) {xs ys : List Int} (hx : t.In xs) (hy : t.In ys) : ∀ x, wc t.S xs ys = some x → 0 ≤ x ∧ x ≤ tp t.S := fun x h => by
  obtain ⟨a1, a2, a3, -⟩ := hx.1.po
  exact wc_in hS a2 a3 a1 hy.1.po.1 h
theorem secondChance_in {t : Tb} (hS : 1 ≤ t.S ∧ t.S ≤ 6) {xs ys : List Int} (hx : t.In xs) (hy : t.In ys) : ∀ x, ((wc t.S ys xs).map fun x => tp t.S - x) = some x → 0 ≤ x ∧ x ≤ tp t.S := fun x h => by
  have h2 := winChance_in hS hy hx
  cases hw : wc t.S ys xs with
  | none => rw [hw] at h; cases h
  | some z =>
    rw [hw] at h
    have := h2 z hw
    simp only [Option.map_some, Option.some.injEq] at h
    omega
def winChanceV (p c h s : Int) (xs ys : List Int) : Int × Int × Int := if rcE p c h s xs ys = 0 then exO s.toNat (wc s.toNat xs ys) else (0, 0, rcE p c h s xs ys)
set_option maxRecDepth 8000 in
set_option maxHeartbeats 2000000 in
theorem winChance_any (p c h s : Int) (a1 a2 : Option Addr) (n1 n2 c1 c2 : Nat) (xs ys : List Int) (w : World) (hn1 : xs.length = n1) (hn2 : ys.length = n2) (hl1 : n1 ≤ 1048576) (hl2 : n2 ≤ 1048576) (hr1 : IRow w a1 xs) (hr2 : IRow w a2 ys) :
    Calls Tryz.prog 17 #[.agg #[.int .i64 p, .int .i64 c, .int .i64 h, .int .i64 s], .slice a1 n1 c1, .slice a2 n2 c2] w fun e w' => e = .returned (xoV (winChanceV p c h s xs ys)) ∧ Below w.heap.size w w' := by
  obtain ⟨BV, BO, hb, hz⟩ := two_new w #[.int .i64 p, .int .i64 c, .int .i64 h, .int .i64 s] #[.int .i64 0, .int .i64 0] 25 30
  have hzz : w.heap.size + 1 < ((w.alloc (.cells #[.int .i64 p, .int .i64 c, .int .i64 h, .int .i64 s] 25)).alloc (.cells #[.int .i64 0, .int .i64 0] 30)).heap.size := by rw [hz]; omega
  clear hz
  replace hr1 := hr1.below hb
  replace hr2 := hr2.below hb
  have HC := Lib.hid (raceCode_any p c h s a1 a2 n1 n2 c1 c2 xs ys _ hn1 hn2 hl1 hl2 hr1 hr2)
  obtain ⟨x0, x1, x2, x3, xf, xl⟩ := BV.four
  obtain ⟨z0, z1, zf, zl⟩ := BO.two
  by_cases k0 : rcE p c h s xs ys = 0
  · rw [winChanceV, if_pos k0]
    rw [k0] at HC
    obtain ⟨S, rfl, hS, hxp, hyp, hcn, few⟩ := rc_ready (rcE_zero k0).1
    rw [Int.toNat_natCast]
    obtain ⟨⟨r1, r2, r3⟩, hR⟩ : ∃ r, exO S (wc S xs ys) = r := ⟨_, rfl⟩
    rw [hR]
    dsimp only [xoV]
    have HR := Lib.hid hR
    clear hR k0
    go_enter Tryz.func17, Tryz.ntmps17
    go_wp2_with fail
    refine (HC.out).mono ?_
    rintro e w1 ⟨rfl, hb1⟩
    have hz1 := hb1.size
    replace BV := BV.below hb1
    replace BO := BO.below hb1
    replace hr1 := hr1.below hb1
    replace hr2 := hr2.below hb1
    replace hb := chain hb hb1
    clear x0 x1 x2 x3 xf xl z0 z1 zf zl hb1 HC
    obtain ⟨x0, x1, x2, x3, xf, xl⟩ := BV.four
    have HCU := Lib.hid (chancesUpTo_any p c h S hS a1 a2 n1 n2 c1 c2 xs ys w1 hxp hyp hcn hn1 hn2 hr1 hr2)
    go_wp2_with fail
    refine (HCU.out).mono ?_
    rintro e w2 ⟨t, rfl, rfl, rfl, rfl, rfl, hK, hI, hgR0, hgC0, hb2⟩
    clear x0 x1 x2 x3 xf xl HCU BV
    have hw2 := hb2.size
    have hsw := hb.size
    replace BO := BO.below hb2
    replace hr1 := hr1.below hb2
    replace hr2 := hr2.below hb2
    replace hb := chain hb hb2
    have hgR : w.heap.size ≤ t.gR := by omega
    have hgC : w.heap.size ≤ t.gC := by omega
    have hKK := Tb.in_of hxp hyp hcn hK
    obtain ⟨hx, hy, hK1⟩ := hKK
    have hin := winChance_in hS hx hy
    obtain ⟨X, hX⟩ : ∃ X, nm t.c xs = X := ⟨_, rfl⟩
    obtain ⟨Y, hY⟩ : ∃ Y, nm t.c ys = Y := ⟨_, rfl⟩
    clear hb2 hw2 hsw hgR0 hgC0 hK
    go_wp2_with fail
    replace hI := hI.drew
    replace BO := BO.drew
    replace hr1 := hr1.drew
    replace hr2 := hr2.drew
    replace hb := hb.drew
    refine wp_region_held_drew (S := fun w' => w'.cell? ⟨t.g, 0, none⟩ = some (.int .i64 t.p) ∧ w'.cell? ⟨t.g, 1, none⟩ = some (.int .i64 t.c) ∧ w'.cell? ⟨t.g, 2, none⟩ = some (.int .i64 t.h) ∧ w'.cell? ⟨t.g, 3, none⟩ = some (.int .i64 (t.S : Int)) ∧ w'.cell? ⟨t.g, 4, none⟩ = some (.pointer (some ⟨t.gw, 0, none⟩))) (by kernel_rfl) ⟨hI.st.1.thirteen.1, hI.st.1.thirteen.2.1, hI.st.1.thirteen.2.2.1, hI.st.1.thirteen.2.2.2.1, hI.st.1.thirteen.2.2.2.2.1⟩ (fun hHeld => ?_)
    clear hHeld
    have hz_v3 : w2.drew.heap.size = w2.heap.size := rfl
    generalize w2.drew = v3 at *
    have hHeld : v3.cell? ⟨t.g, 0, none⟩ = some (.int .i64 t.p) ∧ v3.cell? ⟨t.g, 1, none⟩ = some (.int .i64 t.c) ∧ v3.cell? ⟨t.g, 2, none⟩ = some (.int .i64 t.h) ∧ v3.cell? ⟨t.g, 3, none⟩ = some (.int .i64 (t.S : Int)) ∧ v3.cell? ⟨t.g, 4, none⟩ = some (.pointer (some ⟨t.gw, 0, none⟩)) := ⟨hI.st.1.thirteen.1, hI.st.1.thirteen.2.1, hI.st.1.thirteen.2.2.1, hI.st.1.thirteen.2.2.2.1, hI.st.1.thirteen.2.2.2.2.1⟩
    refine wpAnyH_take (i := 0) (oi := ⟨some 22, _, _, _, _, _⟩) (v := ?_) rfl (by kernel_rfl) (by kernel_rfl) (by kernel_rfl) (fun _ _ _ h => h) (Or.inl ⟨by rfl, ?_⟩) (by assumption) ?_
    rotate_left
    · intro w hSw; (try dsimp only at hSw); go_simp; (try (with_reducible rfl))
    try simp only [Act.put, List.setIfInBounds_toArray, List.set_cons_zero, List.set_cons_succ]
    refine wpAnyH_take (i := 1) (oi := ⟨some 23, _, _, _, _, _⟩) (v := ?_) rfl (by kernel_rfl) (by kernel_rfl) (by kernel_rfl) (fun _ _ _ h => h) (Or.inl ⟨by rfl, ?_⟩) (by assumption) ?_
    rotate_left
    · intro w hSw; (try dsimp only at hSw); go_simp; (try (with_reducible rfl))
    try simp only [Act.put, List.setIfInBounds_toArray, List.set_cons_zero, List.set_cons_succ]
    refine wpAnyH_take (i := 2) (oi := ⟨some 24, _, _, _, _, _⟩) (v := ?_) rfl (by kernel_rfl) (by kernel_rfl) (by kernel_rfl) (fun _ _ _ h => h) (Or.inl ⟨by rfl, ?_⟩) (by assumption) ?_
    rotate_left
    · intro w hSw; (try dsimp only at hSw); go_simp; (try (with_reducible rfl))
    try simp only [Act.put, List.setIfInBounds_toArray, List.set_cons_zero, List.set_cons_succ]
    refine wpAnyH_take (i := 3) (oi := ⟨some 25, _, _, _, _, _⟩) (v := ?_) rfl (by kernel_rfl) (by kernel_rfl) (by kernel_rfl) (fun _ _ _ h => h) (Or.inl ⟨by rfl, ?_⟩) (by assumption) ?_
    rotate_left
    · intro w hSw; (try dsimp only at hSw); go_simp; (try (with_reducible rfl))
    try simp only [Act.put, List.setIfInBounds_toArray, List.set_cons_zero, List.set_cons_succ]
    refine wpAnyH_take (i := 4) (oi := ⟨some 26, _, _, _, _, _⟩) (v := ?_) rfl (by kernel_rfl) (by kernel_rfl) (by kernel_rfl) (fun _ _ _ h => h) (Or.inl ⟨by rfl, ?_⟩) (by assumption) ?_
    rotate_left
    · intro w hSw; (try dsimp only at hSw); go_simp; (try (with_reducible rfl))
    try simp only [Act.put, List.setIfInBounds_toArray, List.set_cons_zero, List.set_cons_succ]
    refine wpAnyH_take (i := 5) (oi := ⟨some 27, _, _, _, _, _⟩) (v := ?_) rfl (by kernel_rfl) (by kernel_rfl) (by kernel_rfl) (fun _ _ _ h => h) (Or.inl ⟨by rfl, ?_⟩) (by assumption) ?_
    rotate_left
    · intro w hSw; (try dsimp only at hSw); go_simp; (try (with_reducible rfl))
    try simp only [Act.put, List.setIfInBounds_toArray, List.set_cons_zero, List.set_cons_succ]
    refine wpAnyH_take (i := 6) (oi := ⟨some 28, _, _, _, _, _⟩) (v := ?_) rfl (by kernel_rfl) (by kernel_rfl) (by kernel_rfl) (fun _ _ _ h => h) (Or.inl ⟨by rfl, ?_⟩) (by assumption) ?_
    rotate_left
    · intro w hSw; (try dsimp only at hSw); go_simp; (try (with_reducible rfl))
    try simp only [Act.put, List.setIfInBounds_toArray, List.set_cons_zero, List.set_cons_succ]
    refine wpAnyH_take (i := 8) (oi := ⟨some 30, _, _, _, _, _⟩) (v := ?_) rfl (by kernel_rfl) (by kernel_rfl) (by kernel_rfl) (fun _ _ _ h => h) (Or.inl ⟨by rfl, ?_⟩) (by assumption) ?_
    rotate_left
    · intro w hSw; (try dsimp only at hSw); go_simp; (try (with_reducible rfl))
    try simp only [Act.put, List.setIfInBounds_toArray, List.set_cons_zero, List.set_cons_succ]
    refine wpAnyH_take (i := 9) (oi := ⟨some 31, _, _, _, _, _⟩) (v := ?_) rfl (by kernel_rfl) (by kernel_rfl) (by kernel_rfl) (fun _ _ _ h => h) (Or.inl ⟨by rfl, ?_⟩) (by assumption) ?_
    rotate_left
    · intro w hSw; (try dsimp only at hSw); go_simp; (try (with_reducible rfl))
    try simp only [Act.put, List.setIfInBounds_toArray, List.set_cons_zero, List.set_cons_succ]
    refine wpAnyH_take (i := 10) (oi := ⟨some 32, _, _, _, _, _⟩) (v := ?_) rfl (by kernel_rfl) (by kernel_rfl) (by kernel_rfl) (fun _ _ _ h => h) (Or.inl ⟨by rfl, ?_⟩) (by assumption) ?_
    rotate_left
    · intro w hSw; (try dsimp only at hSw); go_simp; (try (with_reducible rfl))
    try simp only [Act.put, List.setIfInBounds_toArray, List.set_cons_zero, List.set_cons_succ]
    refine wpAnyH_take (i := 11) (oi := ⟨some 33, _, _, _, _, _⟩) (v := ?_) rfl (by kernel_rfl) (by kernel_rfl) (by kernel_rfl) (fun _ _ _ h => h) (Or.inl ⟨by rfl, ?_⟩) (by assumption) ?_
    rotate_left
    · intro w hSw; (try dsimp only at hSw); go_simp; (try (with_reducible rfl))
    try simp only [Act.put, List.setIfInBounds_toArray, List.set_cons_zero, List.set_cons_succ]
    refine wpAnyH_take (i := 12) (oi := ⟨some 34, _, _, _, _, _⟩) (v := ?_) rfl (by kernel_rfl) (by kernel_rfl) (by kernel_rfl) (fun _ _ _ h => h) (Or.inl ⟨by rfl, ?_⟩) (by assumption) ?_
    rotate_left
    · intro w hSw; (try dsimp only at hSw); go_simp; (try (with_reducible rfl))
    try simp only [Act.put, List.setIfInBounds_toArray, List.set_cons_zero, List.set_cons_succ]
    refine wpAnyH_ready (rs := [7]) (by kernel_rfl) (by simp) ?_
    refine AllReadyH.cons (o := ⟨some 29, _, _, _, _, _⟩) rfl (fun K hK => ?_) AllReadyH.nil
    go_simp
    refine (numOf_any t.p t.c t.h (t.S : Int) t.gw a1 n1 c1 xs _ hx.1 hn1 hr1 hI.st.2.1).mono ?_
    rintro e wd ⟨rfl, hb4⟩
    replace hI := hI.below hb4
    replace BO := BO.below hb4
    replace hr1 := hr1.below hb4
    replace hr2 := hr2.below hb4
    replace hb := chain hb hb4
    clear hb4
    rw [hX]
    (try go_wp2_with fail)
    refine hK.out _ _ ⟨hI.st.1.thirteen.1, hI.st.1.thirteen.2.1, hI.st.1.thirteen.2.2.1, hI.st.1.thirteen.2.2.2.1, hI.st.1.thirteen.2.2.2.2.1⟩ (fun hHeld => ?_)
    clear hK K
    try simp only [Act.put, List.setIfInBounds_toArray, List.set_cons_zero, List.set_cons_succ]
    refine wpAnyH_ready (rs := [13]) (by kernel_rfl) (by simp) ?_
    refine AllReadyH.cons (o := ⟨some 35, _, _, _, _, _⟩) rfl (fun K hK => ?_) AllReadyH.nil
    go_simp
    refine (numOf_any t.p t.c t.h (t.S : Int) t.gw a2 n2 c2 ys _ hy.1 hn2 hr2 hI.st.2.1).mono ?_
    rintro e we ⟨rfl, hb5⟩
    replace hI := hI.below hb5
    replace BO := BO.below hb5
    replace hr1 := hr1.below hb5
    replace hr2 := hr2.below hb5
    replace hb := chain hb hb5
    clear hb5
    rw [hY]
    (try go_wp2_with fail)
    refine hK.out _ _ ⟨hI.st.1.thirteen.1, hI.st.1.thirteen.2.1, hI.st.1.thirteen.2.2.1, hI.st.1.thirteen.2.2.2.1, hI.st.1.thirteen.2.2.2.2.1⟩ (fun hHeld => ?_)
    clear hK K
    try simp only [Act.put, List.setIfInBounds_toArray, List.set_cons_zero, List.set_cons_succ]
    refine wpAnyH_ready (rs := [14]) (by kernel_rfl) (by simp) ?_
    refine AllReadyH.cons (o := ⟨some 36, _, _, _, _, _⟩) rfl (fun K hK => ?_) AllReadyH.nil
    go_simp
    refine (win_any t hS few hK1 (pwT xs + pwT ys + 1) xs ys X Y _ hI hx hy hX hY (by omega)).mono ?_
    rintro e wf ⟨y, cd, rfl, hp, hI2, hga⟩
    have hpb := hp.in hin
    have htp := tp_in hS
    replace BO := hI.tab.gr BO hga.gr (by decide) (by decide)
    replace hb := hb.trans (hga.gr.below (base := w.heap.size) hgR hgC hb.size)
    clear hI hga hr1 hr2
    rename TabI t wf => hI
    (try go_wp2_with fail)
    refine hK.out _ _ ⟨hI.st.1.thirteen.1, hI.st.1.thirteen.2.1, hI.st.1.thirteen.2.2.1, hI.st.1.thirteen.2.2.2.1, hI.st.1.thirteen.2.2.2.2.1⟩ (fun hHeld => ?_)
    clear hK K
    try simp only [Act.put, List.setIfInBounds_toArray, List.set_cons_zero, List.set_cons_succ]
    refine wpAnyH_ready (rs := [15]) (by kernel_rfl) (by simp) ?_
    refine AllReadyH.cons (o := ⟨some 37, _, _, _, _, _⟩) rfl (fun K hK => ?_) AllReadyH.nil
    go_simp
    refine (exact_any t hS y cd (by omega) _ hI).mono ?_
    rintro e wg ⟨rfl, hb6⟩
    replace hI := hI.below hb6
    replace BO := BO.below hb6
    replace hb := chain hb hb6
    clear hb6
    rw [show exV t.S y cd = (r1, r2, r3) from (PV.ex hp).trans HR.out]
    dsimp only [xoV]
    (try go_wp2_with fail)
    refine hK.out _ _ ⟨hI.st.1.thirteen.1, hI.st.1.thirteen.2.1, hI.st.1.thirteen.2.2.1, hI.st.1.thirteen.2.2.2.1, hI.st.1.thirteen.2.2.2.2.1⟩ (fun hHeld => ?_)
    clear hK K
    try simp only [Act.put, List.setIfInBounds_toArray, List.set_cons_zero, List.set_cons_succ]
    refine wpAnyH_take (i := 16) (oi := ⟨some 38, _, _, _, _, _⟩) (v := ?_) rfl (by kernel_rfl) (by kernel_rfl) (by kernel_rfl) (fun _ _ _ h => h) (Or.inl ⟨by rfl, ?_⟩) (by assumption) ?_
    rotate_left
    · intro w hSw; (try dsimp only at hSw); go_simp; (try (with_reducible rfl))
    try simp only [Act.put, List.setIfInBounds_toArray, List.set_cons_zero, List.set_cons_succ]
    refine wpAnyH_take (i := 17) (oi := ⟨some 39, _, _, _, _, _⟩) (v := ?_) rfl (by kernel_rfl) (by kernel_rfl) (by kernel_rfl) (fun _ _ _ h => h) (Or.inl ⟨by rfl, ?_⟩) (by assumption) ?_
    rotate_left
    · intro w hSw; (try dsimp only at hSw); go_simp; (try (with_reducible rfl))
    try simp only [Act.put, List.setIfInBounds_toArray, List.set_cons_zero, List.set_cons_succ]
    refine wpAnyH_ready (rs := [18]) (by kernel_rfl) (by simp) ?_
    refine AllReadyH.cons (o := ⟨none, _, _, _, _, _⟩) rfl (fun K hK => ?_) AllReadyH.nil
    have u0 := BO.two.1
    have u1 := BO.two.2.1
    have uf := BO.two.2.2.1
    have ul := BO.two.2.2.2
    have BT2 : Blk _ t.g t.cells 84 := (hI.st.1.far2 (B := w.heap.size + 1) (hI.st.1.ne BO (by decide)) (.int .i64 r1) (.int .i64 r2))
    go_simp
    (try go_wp2_with fail)
    refine hK.out _ _ ⟨BT2.thirteen.1, BT2.thirteen.2.1, BT2.thirteen.2.2.1, BT2.thirteen.2.2.2.1, BT2.thirteen.2.2.2.2.1⟩ (fun hHeld => ?_)
    clear hK K
    try simp only [Act.put, List.setIfInBounds_toArray, List.set_cons_zero, List.set_cons_succ]
    refine wpAnyH_take (i := 19) (oi := ⟨some 7, _, _, _, _, _⟩) (v := ?_) rfl (by kernel_rfl) (by kernel_rfl) (by kernel_rfl) (fun _ _ _ h => h) (Or.inl ⟨by rfl, ?_⟩) (by assumption) ?_
    rotate_left
    · intro w hSw; (try dsimp only at hSw); go_simp; (try (with_reducible rfl))
    try simp only [Act.put, List.setIfInBounds_toArray, List.set_cons_zero, List.set_cons_succ]
    refine wpAnyH_done (by kernel_rfl) ?_ _
    clear hHeld
    go_wp2_with fail
    have BRn := BO.set2 (.int .i64 r1) (.int .i64 r2)
    obtain ⟨u0, u1, uf, ul⟩ := BRn.two
    refine bodyPost_ret (v := .tuple #[.agg #[.int .i64 r1, .int .i64 r2], .int .i64 r3]) (by simp [results, Tryz.results17, go_sem, u0, u1]) rfl ?_
    exact ⟨rfl, belowFar2 hb (by omega) _ _⟩
  · rw [winChanceV, if_neg k0]
    obtain ⟨K, hK⟩ : ∃ K, rcE p c h s xs ys = K := ⟨_, rfl⟩
    rw [hK] at HC k0 ⊢
    have f0 : (K != 0) = true := by rw [bne_iff_ne]; exact k0
    clear hK
    dsimp only [xoV]
    go_enter Tryz.func17, Tryz.ntmps17
    go_wp2_with fail
    refine (HC.out).mono ?_
    rintro e w1 ⟨rfl, hb1⟩
    have hz1 := hb1.size
    replace BO := BO.below hb1
    replace hb := chain hb hb1
    clear x0 x1 x2 x3 xf xl z0 z1 zf zl hb1 HC
    obtain ⟨z0, z1, zf, zl⟩ := BO.two
    go_wp2_with fail
    have BRn := BO.set2 (.int .i64 0) (.int .i64 0)
    obtain ⟨u0, u1, uf, ul⟩ := BRn.two
    refine bodyPost_ret (v := .tuple #[.agg #[.int .i64 0, .int .i64 0], .int .i64 K]) (by simp [results, Tryz.results17, go_sem, u0, u1]) rfl ?_
    exact ⟨rfl, belowFar2 hb (by omega) _ _⟩
def secondChanceV (p c h s : Int) (xs ys : List Int) : Int × Int × Int := if rcE p c h s xs ys = 0 then exO s.toNat ((wc s.toNat ys xs).map fun x => tp s.toNat - x) else (0, 0, rcE p c h s xs ys)
set_option maxRecDepth 8000 in
set_option maxHeartbeats 2000000 in
theorem secondChance_any (p c h s : Int) (a1 a2 : Option Addr) (n1 n2 c1 c2 : Nat) (xs ys : List Int) (w : World) (hn1 : xs.length = n1) (hn2 : ys.length = n2) (hl1 : n1 ≤ 1048576) (hl2 : n2 ≤ 1048576) (hr1 : IRow w a1 xs) (hr2 : IRow w a2 ys) :
    Calls Tryz.prog 15 #[.agg #[.int .i64 p, .int .i64 c, .int .i64 h, .int .i64 s], .slice a1 n1 c1, .slice a2 n2 c2] w fun e w' => e = .returned (xoV (secondChanceV p c h s xs ys)) ∧ Below w.heap.size w w' := by
  obtain ⟨BV, BO, hb, hz⟩ := two_new w #[.int .i64 p, .int .i64 c, .int .i64 h, .int .i64 s] #[.int .i64 0, .int .i64 0] 25 30
  have hzz : w.heap.size + 1 < ((w.alloc (.cells #[.int .i64 p, .int .i64 c, .int .i64 h, .int .i64 s] 25)).alloc (.cells #[.int .i64 0, .int .i64 0] 30)).heap.size := by rw [hz]; omega
  clear hz
  replace hr1 := hr1.below hb
  replace hr2 := hr2.below hb
  have HC := Lib.hid (raceCode_any p c h s a1 a2 n1 n2 c1 c2 xs ys _ hn1 hn2 hl1 hl2 hr1 hr2)
  obtain ⟨x0, x1, x2, x3, xf, xl⟩ := BV.four
  obtain ⟨z0, z1, zf, zl⟩ := BO.two
  by_cases k0 : rcE p c h s xs ys = 0
  · rw [secondChanceV, if_pos k0]
    rw [k0] at HC
    obtain ⟨S, rfl, hS, hxp, hyp, hcn, few⟩ := rc_ready (rcE_zero k0).1
    rw [Int.toNat_natCast]
    obtain ⟨⟨r1, r2, r3⟩, hR⟩ : ∃ r, exO S ((wc S ys xs).map fun x => tp S - x) = r := ⟨_, rfl⟩
    rw [hR]
    dsimp only [xoV]
    have HR := Lib.hid hR
    clear hR k0
    go_enter Tryz.func15, Tryz.ntmps15
    go_wp2_with fail
    refine (HC.out).mono ?_
    rintro e w1 ⟨rfl, hb1⟩
    have hz1 := hb1.size
    replace BV := BV.below hb1
    replace BO := BO.below hb1
    replace hr1 := hr1.below hb1
    replace hr2 := hr2.below hb1
    replace hb := chain hb hb1
    clear x0 x1 x2 x3 xf xl z0 z1 zf zl hb1 HC
    obtain ⟨x0, x1, x2, x3, xf, xl⟩ := BV.four
    have HCU := Lib.hid (chancesUpTo_any p c h S hS a1 a2 n1 n2 c1 c2 xs ys w1 hxp hyp hcn hn1 hn2 hr1 hr2)
    go_wp2_with fail
    refine (HCU.out).mono ?_
    rintro e w2 ⟨t, rfl, rfl, rfl, rfl, rfl, hK, hI, hgR0, hgC0, hb2⟩
    clear x0 x1 x2 x3 xf xl HCU BV
    have hw2 := hb2.size
    have hsw := hb.size
    replace BO := BO.below hb2
    replace hr1 := hr1.below hb2
    replace hr2 := hr2.below hb2
    replace hb := chain hb hb2
    have hgR : w.heap.size ≤ t.gR := by omega
    have hgC : w.heap.size ≤ t.gC := by omega
    have hKK := Tb.in_of hxp hyp hcn hK
    obtain ⟨hx, hy, hK1⟩ := hKK
    have hin := secondChance_in hS hx hy
    obtain ⟨X, hX⟩ : ∃ X, nm t.c xs = X := ⟨_, rfl⟩
    obtain ⟨Y, hY⟩ : ∃ Y, nm t.c ys = Y := ⟨_, rfl⟩
    clear hb2 hw2 hsw hgR0 hgC0 hK
    go_wp2_with fail
    replace hI := hI.drew
    replace BO := BO.drew
    replace hr1 := hr1.drew
    replace hr2 := hr2.drew
    replace hb := hb.drew
    refine wp_region_held_drew (S := fun w' => w'.cell? ⟨t.g, 0, none⟩ = some (.int .i64 t.p) ∧ w'.cell? ⟨t.g, 1, none⟩ = some (.int .i64 t.c) ∧ w'.cell? ⟨t.g, 2, none⟩ = some (.int .i64 t.h) ∧ w'.cell? ⟨t.g, 3, none⟩ = some (.int .i64 (t.S : Int)) ∧ w'.cell? ⟨t.g, 4, none⟩ = some (.pointer (some ⟨t.gw, 0, none⟩))) (by kernel_rfl) ⟨hI.st.1.thirteen.1, hI.st.1.thirteen.2.1, hI.st.1.thirteen.2.2.1, hI.st.1.thirteen.2.2.2.1, hI.st.1.thirteen.2.2.2.2.1⟩ (fun hHeld => ?_)
    clear hHeld
    have hz_v3 : w2.drew.heap.size = w2.heap.size := rfl
    generalize w2.drew = v3 at *
    have hHeld : v3.cell? ⟨t.g, 0, none⟩ = some (.int .i64 t.p) ∧ v3.cell? ⟨t.g, 1, none⟩ = some (.int .i64 t.c) ∧ v3.cell? ⟨t.g, 2, none⟩ = some (.int .i64 t.h) ∧ v3.cell? ⟨t.g, 3, none⟩ = some (.int .i64 (t.S : Int)) ∧ v3.cell? ⟨t.g, 4, none⟩ = some (.pointer (some ⟨t.gw, 0, none⟩)) := ⟨hI.st.1.thirteen.1, hI.st.1.thirteen.2.1, hI.st.1.thirteen.2.2.1, hI.st.1.thirteen.2.2.2.1, hI.st.1.thirteen.2.2.2.2.1⟩
    refine wpAnyH_take (i := 0) (oi := ⟨some 22, _, _, _, _, _⟩) (v := ?_) rfl (by kernel_rfl) (by kernel_rfl) (by kernel_rfl) (fun _ _ _ h => h) (Or.inl ⟨by rfl, ?_⟩) (by assumption) ?_
    rotate_left
    · intro w hSw; (try dsimp only at hSw); go_simp; (try (with_reducible rfl))
    try simp only [Act.put, List.setIfInBounds_toArray, List.set_cons_zero, List.set_cons_succ]
    refine wpAnyH_take (i := 1) (oi := ⟨some 23, _, _, _, _, _⟩) (v := ?_) rfl (by kernel_rfl) (by kernel_rfl) (by kernel_rfl) (fun _ _ _ h => h) (Or.inl ⟨by rfl, ?_⟩) (by assumption) ?_
    rotate_left
    · intro w hSw; (try dsimp only at hSw); go_simp; (try (with_reducible rfl))
    try simp only [Act.put, List.setIfInBounds_toArray, List.set_cons_zero, List.set_cons_succ]
    refine wpAnyH_take (i := 2) (oi := ⟨some 24, _, _, _, _, _⟩) (v := ?_) rfl (by kernel_rfl) (by kernel_rfl) (by kernel_rfl) (fun _ _ _ h => h) (Or.inl ⟨by rfl, ?_⟩) (by assumption) ?_
    rotate_left
    · intro w hSw; (try dsimp only at hSw); go_simp; (try (with_reducible rfl))
    try simp only [Act.put, List.setIfInBounds_toArray, List.set_cons_zero, List.set_cons_succ]
    refine wpAnyH_take (i := 3) (oi := ⟨some 25, _, _, _, _, _⟩) (v := ?_) rfl (by kernel_rfl) (by kernel_rfl) (by kernel_rfl) (fun _ _ _ h => h) (Or.inl ⟨by rfl, ?_⟩) (by assumption) ?_
    rotate_left
    · intro w hSw; (try dsimp only at hSw); go_simp; (try (with_reducible rfl))
    try simp only [Act.put, List.setIfInBounds_toArray, List.set_cons_zero, List.set_cons_succ]
    refine wpAnyH_take (i := 4) (oi := ⟨some 26, _, _, _, _, _⟩) (v := ?_) rfl (by kernel_rfl) (by kernel_rfl) (by kernel_rfl) (fun _ _ _ h => h) (Or.inl ⟨by rfl, ?_⟩) (by assumption) ?_
    rotate_left
    · intro w hSw; (try dsimp only at hSw); go_simp; (try (with_reducible rfl))
    try simp only [Act.put, List.setIfInBounds_toArray, List.set_cons_zero, List.set_cons_succ]
    refine wpAnyH_take (i := 5) (oi := ⟨some 27, _, _, _, _, _⟩) (v := ?_) rfl (by kernel_rfl) (by kernel_rfl) (by kernel_rfl) (fun _ _ _ h => h) (Or.inl ⟨by rfl, ?_⟩) (by assumption) ?_
    rotate_left
    · intro w hSw; (try dsimp only at hSw); go_simp; (try (with_reducible rfl))
    try simp only [Act.put, List.setIfInBounds_toArray, List.set_cons_zero, List.set_cons_succ]
    refine wpAnyH_take (i := 6) (oi := ⟨some 28, _, _, _, _, _⟩) (v := ?_) rfl (by kernel_rfl) (by kernel_rfl) (by kernel_rfl) (fun _ _ _ h => h) (Or.inl ⟨by rfl, ?_⟩) (by assumption) ?_
    rotate_left
    · intro w hSw; (try dsimp only at hSw); go_simp; (try (with_reducible rfl))
    try simp only [Act.put, List.setIfInBounds_toArray, List.set_cons_zero, List.set_cons_succ]
    refine wpAnyH_take (i := 8) (oi := ⟨some 30, _, _, _, _, _⟩) (v := ?_) rfl (by kernel_rfl) (by kernel_rfl) (by kernel_rfl) (fun _ _ _ h => h) (Or.inl ⟨by rfl, ?_⟩) (by assumption) ?_
    rotate_left
    · intro w hSw; (try dsimp only at hSw); go_simp; (try (with_reducible rfl))
    try simp only [Act.put, List.setIfInBounds_toArray, List.set_cons_zero, List.set_cons_succ]
    refine wpAnyH_take (i := 9) (oi := ⟨some 31, _, _, _, _, _⟩) (v := ?_) rfl (by kernel_rfl) (by kernel_rfl) (by kernel_rfl) (fun _ _ _ h => h) (Or.inl ⟨by rfl, ?_⟩) (by assumption) ?_
    rotate_left
    · intro w hSw; (try dsimp only at hSw); go_simp; (try (with_reducible rfl))
    try simp only [Act.put, List.setIfInBounds_toArray, List.set_cons_zero, List.set_cons_succ]
    refine wpAnyH_take (i := 10) (oi := ⟨some 32, _, _, _, _, _⟩) (v := ?_) rfl (by kernel_rfl) (by kernel_rfl) (by kernel_rfl) (fun _ _ _ h => h) (Or.inl ⟨by rfl, ?_⟩) (by assumption) ?_
    rotate_left
    · intro w hSw; (try dsimp only at hSw); go_simp; (try (with_reducible rfl))
    try simp only [Act.put, List.setIfInBounds_toArray, List.set_cons_zero, List.set_cons_succ]
    refine wpAnyH_take (i := 11) (oi := ⟨some 33, _, _, _, _, _⟩) (v := ?_) rfl (by kernel_rfl) (by kernel_rfl) (by kernel_rfl) (fun _ _ _ h => h) (Or.inl ⟨by rfl, ?_⟩) (by assumption) ?_
    rotate_left
    · intro w hSw; (try dsimp only at hSw); go_simp; (try (with_reducible rfl))
    try simp only [Act.put, List.setIfInBounds_toArray, List.set_cons_zero, List.set_cons_succ]
    refine wpAnyH_take (i := 12) (oi := ⟨some 34, _, _, _, _, _⟩) (v := ?_) rfl (by kernel_rfl) (by kernel_rfl) (by kernel_rfl) (fun _ _ _ h => h) (Or.inl ⟨by rfl, ?_⟩) (by assumption) ?_
    rotate_left
    · intro w hSw; (try dsimp only at hSw); go_simp; (try (with_reducible rfl))
    try simp only [Act.put, List.setIfInBounds_toArray, List.set_cons_zero, List.set_cons_succ]
    refine wpAnyH_ready (rs := [7]) (by kernel_rfl) (by simp) ?_
    refine AllReadyH.cons (o := ⟨some 29, _, _, _, _, _⟩) rfl (fun K hK => ?_) AllReadyH.nil
    go_simp
    refine (numOf_any t.p t.c t.h (t.S : Int) t.gw a1 n1 c1 xs _ hx.1 hn1 hr1 hI.st.2.1).mono ?_
    rintro e wd ⟨rfl, hb4⟩
    replace hI := hI.below hb4
    replace BO := BO.below hb4
    replace hr1 := hr1.below hb4
    replace hr2 := hr2.below hb4
    replace hb := chain hb hb4
    clear hb4
    rw [hX]
    (try go_wp2_with fail)
    refine hK.out _ _ ⟨hI.st.1.thirteen.1, hI.st.1.thirteen.2.1, hI.st.1.thirteen.2.2.1, hI.st.1.thirteen.2.2.2.1, hI.st.1.thirteen.2.2.2.2.1⟩ (fun hHeld => ?_)
    clear hK K
    try simp only [Act.put, List.setIfInBounds_toArray, List.set_cons_zero, List.set_cons_succ]
    refine wpAnyH_ready (rs := [13]) (by kernel_rfl) (by simp) ?_
    refine AllReadyH.cons (o := ⟨some 35, _, _, _, _, _⟩) rfl (fun K hK => ?_) AllReadyH.nil
    go_simp
    refine (numOf_any t.p t.c t.h (t.S : Int) t.gw a2 n2 c2 ys _ hy.1 hn2 hr2 hI.st.2.1).mono ?_
    rintro e we ⟨rfl, hb5⟩
    replace hI := hI.below hb5
    replace BO := BO.below hb5
    replace hr1 := hr1.below hb5
    replace hr2 := hr2.below hb5
    replace hb := chain hb hb5
    clear hb5
    rw [hY]
    (try go_wp2_with fail)
    refine hK.out _ _ ⟨hI.st.1.thirteen.1, hI.st.1.thirteen.2.1, hI.st.1.thirteen.2.2.1, hI.st.1.thirteen.2.2.2.1, hI.st.1.thirteen.2.2.2.2.1⟩ (fun hHeld => ?_)
    clear hK K
    try simp only [Act.put, List.setIfInBounds_toArray, List.set_cons_zero, List.set_cons_succ]
    refine wpAnyH_ready (rs := [14]) (by kernel_rfl) (by simp) ?_
    refine AllReadyH.cons (o := ⟨some 36, _, _, _, _, _⟩) rfl (fun K hK => ?_) AllReadyH.nil
    go_simp
    refine (after_any t hS (pwT ys + pwT xs + 1) (win_any t hS few hK1 _) xs ys X Y _ hI hx hy hX hY (by omega)).mono ?_
    rintro e wf ⟨y, cd, rfl, hp, hI2, hga⟩
    have hpb := hp.in hin
    have htp := tp_in hS
    replace BO := hI.tab.gr BO hga.gr (by decide) (by decide)
    replace hb := hb.trans (hga.gr.below (base := w.heap.size) hgR hgC hb.size)
    clear hI hga hr1 hr2
    rename TabI t wf => hI
    (try go_wp2_with fail)
    refine hK.out _ _ ⟨hI.st.1.thirteen.1, hI.st.1.thirteen.2.1, hI.st.1.thirteen.2.2.1, hI.st.1.thirteen.2.2.2.1, hI.st.1.thirteen.2.2.2.2.1⟩ (fun hHeld => ?_)
    clear hK K
    try simp only [Act.put, List.setIfInBounds_toArray, List.set_cons_zero, List.set_cons_succ]
    refine wpAnyH_ready (rs := [15]) (by kernel_rfl) (by simp) ?_
    refine AllReadyH.cons (o := ⟨some 37, _, _, _, _, _⟩) rfl (fun K hK => ?_) AllReadyH.nil
    go_simp
    refine (exact_any t hS y cd (by omega) _ hI).mono ?_
    rintro e wg ⟨rfl, hb6⟩
    replace hI := hI.below hb6
    replace BO := BO.below hb6
    replace hb := chain hb hb6
    clear hb6
    rw [show exV t.S y cd = (r1, r2, r3) from (PV.ex hp).trans HR.out]
    dsimp only [xoV]
    (try go_wp2_with fail)
    refine hK.out _ _ ⟨hI.st.1.thirteen.1, hI.st.1.thirteen.2.1, hI.st.1.thirteen.2.2.1, hI.st.1.thirteen.2.2.2.1, hI.st.1.thirteen.2.2.2.2.1⟩ (fun hHeld => ?_)
    clear hK K
    try simp only [Act.put, List.setIfInBounds_toArray, List.set_cons_zero, List.set_cons_succ]
    refine wpAnyH_take (i := 16) (oi := ⟨some 38, _, _, _, _, _⟩) (v := ?_) rfl (by kernel_rfl) (by kernel_rfl) (by kernel_rfl) (fun _ _ _ h => h) (Or.inl ⟨by rfl, ?_⟩) (by assumption) ?_
    rotate_left
    · intro w hSw; (try dsimp only at hSw); go_simp; (try (with_reducible rfl))
    try simp only [Act.put, List.setIfInBounds_toArray, List.set_cons_zero, List.set_cons_succ]
    refine wpAnyH_take (i := 17) (oi := ⟨some 39, _, _, _, _, _⟩) (v := ?_) rfl (by kernel_rfl) (by kernel_rfl) (by kernel_rfl) (fun _ _ _ h => h) (Or.inl ⟨by rfl, ?_⟩) (by assumption) ?_
    rotate_left
    · intro w hSw; (try dsimp only at hSw); go_simp; (try (with_reducible rfl))
    try simp only [Act.put, List.setIfInBounds_toArray, List.set_cons_zero, List.set_cons_succ]
    refine wpAnyH_ready (rs := [18]) (by kernel_rfl) (by simp) ?_
    refine AllReadyH.cons (o := ⟨none, _, _, _, _, _⟩) rfl (fun K hK => ?_) AllReadyH.nil
    have u0 := BO.two.1
    have u1 := BO.two.2.1
    have uf := BO.two.2.2.1
    have ul := BO.two.2.2.2
    have BT2 : Blk _ t.g t.cells 84 := (hI.st.1.far2 (B := w.heap.size + 1) (hI.st.1.ne BO (by decide)) (.int .i64 r1) (.int .i64 r2))
    go_simp
    (try go_wp2_with fail)
    refine hK.out _ _ ⟨BT2.thirteen.1, BT2.thirteen.2.1, BT2.thirteen.2.2.1, BT2.thirteen.2.2.2.1, BT2.thirteen.2.2.2.2.1⟩ (fun hHeld => ?_)
    clear hK K
    try simp only [Act.put, List.setIfInBounds_toArray, List.set_cons_zero, List.set_cons_succ]
    refine wpAnyH_take (i := 19) (oi := ⟨some 7, _, _, _, _, _⟩) (v := ?_) rfl (by kernel_rfl) (by kernel_rfl) (by kernel_rfl) (fun _ _ _ h => h) (Or.inl ⟨by rfl, ?_⟩) (by assumption) ?_
    rotate_left
    · intro w hSw; (try dsimp only at hSw); go_simp; (try (with_reducible rfl))
    try simp only [Act.put, List.setIfInBounds_toArray, List.set_cons_zero, List.set_cons_succ]
    refine wpAnyH_done (by kernel_rfl) ?_ _
    clear hHeld
    go_wp2_with fail
    have BRn := BO.set2 (.int .i64 r1) (.int .i64 r2)
    obtain ⟨u0, u1, uf, ul⟩ := BRn.two
    refine bodyPost_ret (v := .tuple #[.agg #[.int .i64 r1, .int .i64 r2], .int .i64 r3]) (by simp [results, Tryz.results15, go_sem, u0, u1]) rfl ?_
    exact ⟨rfl, belowFar2 hb (by omega) _ _⟩
  · rw [secondChanceV, if_neg k0]
    obtain ⟨K, hK⟩ : ∃ K, rcE p c h s xs ys = K := ⟨_, rfl⟩
    rw [hK] at HC k0 ⊢
    have f0 : (K != 0) = true := by rw [bne_iff_ne]; exact k0
    clear hK
    dsimp only [xoV]
    go_enter Tryz.func15, Tryz.ntmps15
    go_wp2_with fail
    refine (HC.out).mono ?_
    rintro e w1 ⟨rfl, hb1⟩
    have hz1 := hb1.size
    replace BO := BO.below hb1
    replace hb := chain hb hb1
    clear x0 x1 x2 x3 xf xl z0 z1 zf zl hb1 HC
    obtain ⟨z0, z1, zf, zl⟩ := BO.two
    go_wp2_with fail
    have BRn := BO.set2 (.int .i64 0) (.int .i64 0)
    obtain ⟨u0, u1, uf, ul⟩ := BRn.two
    refine bodyPost_ret (v := .tuple #[.agg #[.int .i64 0, .int .i64 0], .int .i64 K]) (by simp [results, Tryz.results15, go_sem, u0, u1]) rfl ?_
    exact ⟨rfl, belowFar2 hb (by omega) _ _⟩
end Go.Proofs.YtfomfbfcnenhbaaGreat
