/- Contract of the model's RaceBoard: the board with two bear-off positions. -/
import Derived.Test.Ytdciiocmddlhfaa15i
import Derived.Test.YtdciiocmddlhfaaStart
import Derived.Test.YtdciiocmddlhfaaL02b
import Derived.Test.YtdciiocmddlhfaaL02d
import Derived.Deep.Cut
import Derived.Deep.CutRange
import Derived.Deep.LoopGhost
namespace Go.Proofs.Ytdciiocmddlhfaa
open Go.ChangeShapes Go.WideShapes Go.ChangeAt Go.RowKit
set_option linter.unusedVariables false
set_option linter.unusedSimpArgs false
set_option maxRecDepth 4000

theorem Row.neL {w : World} {g b : Nat} {xs : List Int} {us : Array Value} {u : TypeId} (h : Row w g xs) (k : Blk w b us u) (hne : 2 ≠ u) : g ≠ b := fun e => by
  subst e
  obtain ⟨cur, hB, -⟩ := h
  have q := hB.symm.trans k
  simp only [Option.some.injEq, Obj.cells.injEq] at q
  exact hne q.2.1
/-- The first places taken over, the others empty. -/
def flX (xs : List Int) (P k : Nat) : List Int := xs.take k ++ List.replicate (P + 1 - k) 0
theorem flX_length (xs : List Int) (P k : Nat) (h : k ≤ xs.length) (h2 : k ≤ P) : (flX xs P k).length = P + 1 := by
  unfold flX
  rw [List.length_append, List.length_take, List.length_replicate]
  omega
theorem fl_step (xs : List Int) (P k : Nat) (h : k < xs.length) (h2 : k ≤ P) : (flX xs P k).set k (xs.getD k 0) = flX xs P (k + 1) := by
  have hk : (xs.take k).length = k := by rw [List.length_take]; omega
  unfold flX
  rw [show P + 1 - k = (P + 1 - (k + 1)) + 1 by omega, List.replicate_succ, List.set_append_right _ _ (by omega), hk, Nat.sub_self, List.set_cons_zero, List.take_add_one, List.getElem?_eq_getElem h, List.getD_eq_getElem?_getD, List.getElem?_eq_getElem h]
  simp only [Option.getD_some, Option.toList_some, List.append_assoc, List.cons_append, List.nil_append]
set_option maxRecDepth 8000 in
set_option maxHeartbeats 4000000 in
theorem specRaceBoard_any (p c h s : Int) (a1 a2 : Option Addr) (n1 n2 c1 c2 : Nat) (xs ys : List Int) (w : World) (hn1 : xs.length = n1) (hn2 : ys.length = n2) (hl1 : n1 ≤ 1048576) (hl2 : n2 ≤ 1048576) (hr1 : IRow w a1 xs) (hr2 : IRow w a2 ys) :
    Calls Try.prog 4 #[.agg #[.int .i64 p, .int .i64 c, .int .i64 h, .int .i64 s], .slice a1 n1 c1, .slice a2 n2 c2] w (RbGot (rbX p h xs) (rbX p h ys) (rbK p c h s xs ys) w) := by
  subst hn1 hn2
  obtain ⟨BV, BO, hb, hz⟩ := two_new w #[.int .i64 p, .int .i64 c, .int .i64 h, .int .i64 s] #[.slice none 0 0, .slice none 0 0] 29 26
  have rx := hr1.below hb
  have ry := hr2.below hb
  have HR1 := Lib.hid hr1
  have HR2 := Lib.hid hr2
  clear hr1 hr2 hz
  have hV := fun W => specIsVariant_any p c h s W
  obtain ⟨x0, x1, x2, x3, xf, xl⟩ := BV.four
  by_cases gv : vB p c h s = true
  rotate_left
  · have hrk : rbK p c h s xs ys = 1 := by
      have e : rbC p c h s xs ys = 1 := by unfold rbC bcE; simp [gv]
      unfold rbK
      rw [if_pos (by rw [e]; simp), e]
    have HRK := Lib.hid hrk
    replace gv : vB p c h s = false := by simpa using gv
    rw [gv] at hV
    have HV := Lib.hid hV
    clear hV hrk gv
    go_enter Try.func4, Try.ntmps4
    go_wp2_with fail
    clear x0 x1 x2 x3 xf xl
    generalize ((w.alloc (.cells #[.int .i64 p, .int .i64 c, .int .i64 h, .int .i64 s] 29)).alloc (.cells #[.slice none 0 0, .slice none 0 0] 26)) = w1 at *
    refine (HV.out _).mono ?_
    rintro e w2 ⟨rfl, hq⟩
    replace BV := BV.below hq; replace BO := BO.below hq; replace hb := chain hb hq
    obtain ⟨z0, z1, zf, zl⟩ := BO.two
    go_wp2_with fail
    have MO := (BO.set (i := 0) (.slice none 0 0)).set (i := 1) (.slice none 0 0)
    simp only [List.setIfInBounds_toArray, List.set_cons_zero, List.set_cons_succ] at MO
    have hM := (hb.setCell (p := ⟨w.heap.size + 1, 0, none⟩) (by simp <;> omega) (.slice none 0 0)).setCell (p := ⟨w.heap.size + 1, 1, none⟩) (by simp <;> omega) (.slice none 0 0)
    clear z0 z1 zf zl
    generalize ((w2.setCell ⟨w.heap.size + 1, 0, none⟩ (.slice none 0 0)).setCell ⟨w.heap.size + 1, 1, none⟩ (.slice none 0 0)) = we at *
    obtain ⟨z0, z1, zf, zl⟩ := MO.two
    refine bodyPost_ret (v := .tuple #[.agg #[.slice none 0 0, .slice none 0 0], .int .i64 1]) (by simp [results, Try.results4, go_sem, z0, z1]) rfl ?_
    rw [HRK.out]
    exact ⟨fun e => absurd e (by simp), fun _ => by simp, hM⟩
  · have hX := fun W (r : IRow W a1 xs) => l10Valid_any p c h s a1 xs.length c1 xs W gv rfl hl1 r
    have hY := fun W (r : IRow W a2 ys) => l10Valid_any p c h s a2 ys.length c2 ys W gv rfl hl2 r
    have hbc : ∀ zs, bcE p c h s zs = if sideB (h - 1) c zs = true then 0 else 2 := fun zs => by unfold bcE; rw [if_pos gv]
    have hrc : rbC p c h s xs ys = if (sideB (h - 1) c xs && sideB (h - 1) c ys) = true then 0 else 2 := by
      unfold rbC
      rw [hbc, hbc]
      cases sideB (h - 1) c xs <;> cases sideB (h - 1) c ys <;> simp
    obtain ⟨bx, hbx⟩ : ∃ b, sideB (h - 1) c xs = b := ⟨_, rfl⟩
    obtain ⟨by_, hby⟩ : ∃ b, sideB (h - 1) c ys = b := ⟨_, rfl⟩
    rw [hbx] at hX
    rw [hby] at hY
    rw [hbx, hby] at hrc
    rw [gv] at hV
    have HV := Lib.hid hV
    have HX := Lib.hid hX
    have HY := Lib.hid hY
    clear hV hX hY hbc
    go_enter Try.func4, Try.ntmps4
    go_wp2_with fail
    clear x0 x1 x2 x3 xf xl
    generalize ((w.alloc (.cells #[.int .i64 p, .int .i64 c, .int .i64 h, .int .i64 s] 29)).alloc (.cells #[.slice none 0 0, .slice none 0 0] 26)) = w1 at *
    refine (HV.out _).mono ?_
    rintro e w2 ⟨rfl, hq⟩
    replace BV := BV.below hq; replace BO := BO.below hq; replace rx := rx.below hq; replace ry := ry.below hq; replace hb := chain hb hq
    clear hq
    obtain ⟨x0, x1, x2, x3, xf, xl⟩ := BV.four
    go_wp2_with fail
    clear x0 x1 x2 x3 xf xl
    refine (HX.out _ rx).mono ?_
    rintro e w3 ⟨rfl, hq⟩
    replace BV := BV.below hq; replace BO := BO.below hq; replace rx := rx.below hq; replace ry := ry.below hq; replace hb := chain hb hq
    clear hq
    obtain ⟨x0, x1, x2, x3, xf, xl⟩ := BV.four
    cases bx with
    | false =>
      have hrk : rbK p c h s xs ys = 2 := by unfold rbK; rw [hrc]; simp
      have HRK := Lib.hid hrk
      clear hrk
      obtain ⟨z0, z1, zf, zl⟩ := BO.two
      go_wp2_with fail
      have MO := (BO.set (i := 0) (.slice none 0 0)).set (i := 1) (.slice none 0 0)
      simp only [List.setIfInBounds_toArray, List.set_cons_zero, List.set_cons_succ] at MO
      have hM := (hb.setCell (p := ⟨w.heap.size + 1, 0, none⟩) (by simp <;> omega) (.slice none 0 0)).setCell (p := ⟨w.heap.size + 1, 1, none⟩) (by simp <;> omega) (.slice none 0 0)
      clear z0 z1 zf zl
      generalize ((w3.setCell ⟨w.heap.size + 1, 0, none⟩ (.slice none 0 0)).setCell ⟨w.heap.size + 1, 1, none⟩ (.slice none 0 0)) = we at *
      obtain ⟨z0, z1, zf, zl⟩ := MO.two
      refine bodyPost_ret (v := .tuple #[.agg #[.slice none 0 0, .slice none 0 0], .int .i64 2]) (by simp [results, Try.results4, go_sem, z0, z1]) rfl ?_
      rw [HRK.out]
      exact ⟨fun e => absurd e (by simp), fun _ => by simp, hM⟩
    | true =>
      go_wp2_with fail
      clear x0 x1 x2 x3 xf xl
      refine (HY.out _ ry).mono ?_
      rintro e wS ⟨rfl, hq⟩
      replace BV := BV.below hq; replace BO := BO.below hq; replace rx := rx.below hq; replace ry := ry.below hq; replace hb := chain hb hq
      clear hq
      obtain ⟨x0, x1, x2, x3, xf, xl⟩ := BV.four
      cases by_ with
      | false =>
        have hrk : rbK p c h s xs ys = 2 := by unfold rbK; rw [hrc]; simp
        have HRK := Lib.hid hrk
        clear hrk
        obtain ⟨z0, z1, zf, zl⟩ := BO.two
        go_wp2_with fail
        have MO := (BO.set (i := 0) (.slice none 0 0)).set (i := 1) (.slice none 0 0)
        simp only [List.setIfInBounds_toArray, List.set_cons_zero, List.set_cons_succ] at MO
        have hM := (hb.setCell (p := ⟨w.heap.size + 1, 0, none⟩) (by simp <;> omega) (.slice none 0 0)).setCell (p := ⟨w.heap.size + 1, 1, none⟩) (by simp <;> omega) (.slice none 0 0)
        clear z0 z1 zf zl
        generalize ((wS.setCell ⟨w.heap.size + 1, 0, none⟩ (.slice none 0 0)).setCell ⟨w.heap.size + 1, 1, none⟩ (.slice none 0 0)) = we at *
        obtain ⟨z0, z1, zf, zl⟩ := MO.two
        refine bodyPost_ret (v := .tuple #[.agg #[.slice none 0 0, .slice none 0 0], .int .i64 2]) (by simp [results, Try.results4, go_sem, z0, z1]) rfl ?_
        rw [HRK.out]
        exact ⟨fun e => absurd e (by simp), fun _ => by simp, hM⟩
      | true =>
        have hrk : rbK p c h s xs ys = if rbB p c h s xs ys = true then 0 else 5 := by unfold rbK; rw [hrc]; simp
        have HRK := Lib.hid hrk
        rw [vB_iff] at gv
        rw [sideB_iff] at hbx hby
        obtain ⟨P, rfl⟩ : ∃ P : Nat, p = (P : Int) := ⟨p.toNat, by omega⟩
        obtain ⟨H, rfl⟩ : ∃ H : Nat, h = (H : Int) := ⟨h.toNat, by omega⟩
        have he := fun W => l02Empty_any P c H s W (by omega)
        obtain ⟨ZS, hZS⟩ : ∃ z, List.replicate (P + 1) (0 : Int) = z := ⟨_, rfl⟩
        have hzl : ZS.length = P + 1 := by rw [← hZS, List.length_replicate]
        rw [hZS] at he
        unfold Copied at he
        have HE := Lib.hid he
        have HZS := Lib.hid hZS
        have HZL := Lib.hid hzl
        have HXL := Lib.hid hbx.1
        have HYL := Lib.hid hby.1
        have hP24 : H ≤ P ∧ P ≤ 24 ∧ 2 ≤ P ∧ 1 ≤ H := by omega
        have HP24 := Lib.hid hP24
        clear he hZS hzl hbx hby gv hrk hrc hP24 rx ry
        have hbo := BO.lt
        go_upto_region 5 with (fail)
        clear x0 x1 x2 x3 xf xl
        go_cut [8] from 25 to 29 (fun q8 wq => ∃ g gO gT, q8 = .pointer (some ⟨g, 0, none⟩) ∧ Blk wq g #[.slice (some ⟨gO, 0, none⟩) ZS.length ZS.length, .slice (some ⟨gT, 0, none⟩) ZS.length ZS.length] 26 ∧ Row wq gO ZS ∧ Row wq gT ZS ∧ wS.heap.size ≤ gO ∧ gO < gT ∧ gT < wq.heap.size ∧ wS.heap.size ≤ g ∧ g ≠ gO ∧ Below wS.heap.size wS wq)
        case first =>
          refine wp_region_held_drew (S := fun w' => w'.cell? ⟨w.heap.size, 0, none⟩ = some (.int .i64 (P : Int)) ∧ w'.cell? ⟨w.heap.size, 1, none⟩ = some (.int .i64 c) ∧ w'.cell? ⟨w.heap.size, 2, none⟩ = some (.int .i64 (H : Int)) ∧ w'.cell? ⟨w.heap.size, 3, none⟩ = some (.int .i64 s)) (by kernel_rfl) ⟨BV.four.1, BV.four.2.1, BV.four.2.2.1, BV.four.2.2.2.1⟩ (fun hHeld => ?_)
          clear hHeld
          have hbS : Below wS.heap.size wS wS.drew := (Below.refl _ _).drew
          have hsd : wS.heap.size ≤ wS.drew.heap.size := Nat.le_refl _
          generalize wS.drew = vd at *
          have hHeld : vd.cell? ⟨w.heap.size, 0, none⟩ = some (.int .i64 (P : Int)) ∧ vd.cell? ⟨w.heap.size, 1, none⟩ = some (.int .i64 c) ∧ vd.cell? ⟨w.heap.size, 2, none⟩ = some (.int .i64 (H : Int)) ∧ vd.cell? ⟨w.heap.size, 3, none⟩ = some (.int .i64 s) := ⟨(BV.below hbS).four.1, (BV.below hbS).four.2.1, (BV.below hbS).four.2.2.1, (BV.below hbS).four.2.2.2.1⟩
          refine tk 0 25 ?_
          refine tk 2 27 ?_
          refine wpAnyH_ready (rs := [1, 5]) (by kernel_rfl) (by simp) ?_
          refine AllReadyH.cons (o := { dst := some 26, op := _, type := _, pos := _, after := _, guard := _ }) rfl (fun K hK => ?_) (AllReadyH.cons (o := { dst := some 8, op := _, type := _, pos := _, after := _, guard := _ }) rfl (fun K hK => ?_) AllReadyH.nil)
          · go_simp
            refine (HE.out _).mono ?_
            rintro e wA ⟨gO, rfl, hgO, RO, hbA⟩
            have hsA := hbA.size
            have hlO := RO.lt
            replace hbS := chain hbS hbA
            clear hbA
            (try go_wp2_with fail)
            refine hko hK (Blk.l4 (BV.below hbS)) fun hHeld => ?_
            clear hK K
            refine wpAnyH_ready (rs := [3, 5]) (by kernel_rfl) (by simp) ?_
            refine AllReadyH.cons (o := { dst := some 28, op := _, type := _, pos := _, after := _, guard := _ }) rfl (fun K hK => ?_) (AllReadyH.cons (o := { dst := some 8, op := _, type := _, pos := _, after := _, guard := _ }) rfl (fun K hK => ?_) AllReadyH.nil)
            · go_simp
              refine (HE.out _).mono ?_
              rintro e wB ⟨gT, rfl, hgT, RT, hbB⟩
              have hsB := hbB.size
              have hlT := RT.lt
              replace RO := RO.below hbB
              replace hbS := chain hbS hbB
              clear hbB
              (try go_wp2_with fail)
              refine hko hK (Blk.l4 (BV.below hbS)) fun hHeld => ?_
              clear hK K
              refine tk 4 29 ?_
              refine rdk 5 8 fun K hK => ?_
              go_simp
              (try go_wp2_with fail)
              refine hko hK (Blk.l4 (BV.below (chain_alloc hbS (.cells #[.slice none 0 0, .slice none 0 0] 26)))) fun hHeld => ?_
              clear hK K
              have B8 := Blk.new wB #[.slice none 0 0, .slice none 0 0] 26
              have h8 : wS.heap.size ≤ wB.heap.size := hbS.size
              replace RO := RO.alloc (.cells #[.slice none 0 0, .slice none 0 0] 26)
              replace RT := RT.alloc (.cells #[.slice none 0 0, .slice none 0 0] 26)
              have hs8 : (wB.alloc (.cells #[.slice none 0 0, .slice none 0 0] 26)).heap.size = wB.heap.size + 1 := by simp
              replace hbS := chain_alloc hbS (.cells #[.slice none 0 0, .slice none 0 0] 26)
              generalize wB.alloc (.cells #[.slice none 0 0, .slice none 0 0] 26) = wC at *
              generalize wB.heap.size = g8 at *
              refine rdn 6 fun K hK => ?_
              clear hHeld
              have hl8 := B8.lt
              have h8b := BV.lt
              obtain ⟨z0, z1, zf, zl⟩ := B8.two
              have Shb := (hbS.setCell (p := ⟨g8, 0, none⟩) (by dsimp only; omega) (.slice (some ⟨gO, 0, none⟩) ZS.length ZS.length)).setCell (p := ⟨g8, 1, none⟩) (by dsimp only; omega) (.slice (some ⟨gT, 0, none⟩) ZS.length ZS.length)
              have SB8 := (B8.set (i := 0) (.slice (some ⟨gO, 0, none⟩) ZS.length ZS.length)).set (i := 1) (.slice (some ⟨gT, 0, none⟩) ZS.length ZS.length)
              simp only [List.setIfInBounds_toArray, List.set_cons_zero, List.set_cons_succ] at SB8
              have SRO := (RO.other (g := g8) (o := 0) (v := (.slice (some ⟨gO, 0, none⟩) ZS.length ZS.length)) (by omega)).other (g := g8) (o := 1) (v := (.slice (some ⟨gT, 0, none⟩) ZS.length ZS.length)) (by omega)
              have SRT := (RT.other (g := g8) (o := 0) (v := (.slice (some ⟨gO, 0, none⟩) ZS.length ZS.length)) (by omega)).other (g := g8) (o := 1) (v := (.slice (some ⟨gT, 0, none⟩) ZS.length ZS.length)) (by omega)
              have hse : ((wC.setCell ⟨g8, 0, none⟩ (.slice (some ⟨gO, 0, none⟩) ZS.length ZS.length)).setCell ⟨g8, 1, none⟩ (.slice (some ⟨gT, 0, none⟩) ZS.length ZS.length)).heap.size = wC.heap.size := by simp [World.setCell]
              go_simp
              (try go_wp2_with fail)
              refine hko hK (Blk.l4 (BV.below Shb)) fun hHeld => ?_
              clear hK K
              clear z0 z1 zf zl hbS B8 RO RT
              generalize ((wC.setCell ⟨g8, 0, none⟩ (.slice (some ⟨gO, 0, none⟩) ZS.length ZS.length)).setCell ⟨g8, 1, none⟩ (.slice (some ⟨gT, 0, none⟩) ZS.length ZS.length)) = wE at *
              have hbS := Shb
              have B8 := SB8
              have RO := SRO
              have RT := SRT
              clear Shb SB8 SRO SRT
              refine wpAnyH_done (by kernel_rfl) ?_ _
              clear hHeld
              (try go_wp2_with fail)
              go_meet
              case rel => exact ⟨g8, gO, gT, rfl, B8, RO, RT, by omega, by omega, by omega, by omega, by omega, hbS⟩
            · go_simp
              (try go_wp2_with fail)
              refine hko hK (Blk.l4 (BV.below (chain_alloc hbS (.cells #[.slice none 0 0, .slice none 0 0] 26)))) fun hHeld => ?_
              clear hK K
              have B8 := Blk.new wA #[.slice none 0 0, .slice none 0 0] 26
              have h8 : wS.heap.size ≤ wA.heap.size := hbS.size
              replace RO := RO.alloc (.cells #[.slice none 0 0, .slice none 0 0] 26)
              have hs8 : (wA.alloc (.cells #[.slice none 0 0, .slice none 0 0] 26)).heap.size = wA.heap.size + 1 := by simp
              replace hbS := chain_alloc hbS (.cells #[.slice none 0 0, .slice none 0 0] 26)
              generalize wA.alloc (.cells #[.slice none 0 0, .slice none 0 0] 26) = wC at *
              generalize wA.heap.size = g8 at *
              refine rdk 3 28 fun K hK => ?_
              go_simp
              refine (HE.out _).mono ?_
              rintro e wB ⟨gT, rfl, hgT, RT, hbB⟩
              have hsB := hbB.size
              have hlT := RT.lt
              replace RO := RO.below hbB
              replace B8 := B8.below hbB
              replace hbS := chain hbS hbB
              clear hbB
              (try go_wp2_with fail)
              refine hko hK (Blk.l4 (BV.below hbS)) fun hHeld => ?_
              clear hK K
              refine tk 4 29 ?_
              refine rdn 6 fun K hK => ?_
              clear hHeld
              have hl8 := B8.lt
              have h8b := BV.lt
              obtain ⟨z0, z1, zf, zl⟩ := B8.two
              have Shb := (hbS.setCell (p := ⟨g8, 0, none⟩) (by dsimp only; omega) (.slice (some ⟨gO, 0, none⟩) ZS.length ZS.length)).setCell (p := ⟨g8, 1, none⟩) (by dsimp only; omega) (.slice (some ⟨gT, 0, none⟩) ZS.length ZS.length)
              have SB8 := (B8.set (i := 0) (.slice (some ⟨gO, 0, none⟩) ZS.length ZS.length)).set (i := 1) (.slice (some ⟨gT, 0, none⟩) ZS.length ZS.length)
              simp only [List.setIfInBounds_toArray, List.set_cons_zero, List.set_cons_succ] at SB8
              have SRO := (RO.other (g := g8) (o := 0) (v := (.slice (some ⟨gO, 0, none⟩) ZS.length ZS.length)) (by omega)).other (g := g8) (o := 1) (v := (.slice (some ⟨gT, 0, none⟩) ZS.length ZS.length)) (by omega)
              have SRT := (RT.other (g := g8) (o := 0) (v := (.slice (some ⟨gO, 0, none⟩) ZS.length ZS.length)) (by omega)).other (g := g8) (o := 1) (v := (.slice (some ⟨gT, 0, none⟩) ZS.length ZS.length)) (by omega)
              have hse : ((wB.setCell ⟨g8, 0, none⟩ (.slice (some ⟨gO, 0, none⟩) ZS.length ZS.length)).setCell ⟨g8, 1, none⟩ (.slice (some ⟨gT, 0, none⟩) ZS.length ZS.length)).heap.size = wB.heap.size := by simp [World.setCell]
              go_simp
              (try go_wp2_with fail)
              refine hko hK (Blk.l4 (BV.below Shb)) fun hHeld => ?_
              clear hK K
              clear z0 z1 zf zl hbS B8 RO RT
              generalize ((wB.setCell ⟨g8, 0, none⟩ (.slice (some ⟨gO, 0, none⟩) ZS.length ZS.length)).setCell ⟨g8, 1, none⟩ (.slice (some ⟨gT, 0, none⟩) ZS.length ZS.length)) = wE at *
              have hbS := Shb
              have B8 := SB8
              have RO := SRO
              have RT := SRT
              clear Shb SB8 SRO SRT
              refine wpAnyH_done (by kernel_rfl) ?_ _
              clear hHeld
              (try go_wp2_with fail)
              go_meet
              case rel => exact ⟨g8, gO, gT, rfl, B8, RO, RT, by omega, by omega, by omega, by omega, by omega, hbS⟩
          · go_simp
            (try go_wp2_with fail)
            refine hko hK (Blk.l4 (BV.below (chain_alloc hbS (.cells #[.slice none 0 0, .slice none 0 0] 26)))) fun hHeld => ?_
            clear hK K
            have B8 := Blk.new vd #[.slice none 0 0, .slice none 0 0] 26
            have h8 : wS.heap.size ≤ vd.heap.size := hbS.size
            have hs8 : (vd.alloc (.cells #[.slice none 0 0, .slice none 0 0] 26)).heap.size = vd.heap.size + 1 := by simp
            replace hbS := chain_alloc hbS (.cells #[.slice none 0 0, .slice none 0 0] 26)
            generalize vd.alloc (.cells #[.slice none 0 0, .slice none 0 0] 26) = wC at *
            generalize vd.heap.size = g8 at *
            refine rdk 1 26 fun K hK => ?_
            go_simp
            refine (HE.out _).mono ?_
            rintro e wA ⟨gO, rfl, hgO, RO, hbA⟩
            have hsA := hbA.size
            have hlO := RO.lt
            replace B8 := B8.below hbA
            replace hbS := chain hbS hbA
            clear hbA
            (try go_wp2_with fail)
            refine hko hK (Blk.l4 (BV.below hbS)) fun hHeld => ?_
            clear hK K
            refine rdk 3 28 fun K hK => ?_
            go_simp
            refine (HE.out _).mono ?_
            rintro e wB ⟨gT, rfl, hgT, RT, hbB⟩
            have hsB := hbB.size
            have hlT := RT.lt
            replace RO := RO.below hbB
            replace B8 := B8.below hbB
            replace hbS := chain hbS hbB
            clear hbB
            (try go_wp2_with fail)
            refine hko hK (Blk.l4 (BV.below hbS)) fun hHeld => ?_
            clear hK K
            refine tk 4 29 ?_
            refine rdn 6 fun K hK => ?_
            clear hHeld
            have hl8 := B8.lt
            have h8b := BV.lt
            obtain ⟨z0, z1, zf, zl⟩ := B8.two
            have Shb := (hbS.setCell (p := ⟨g8, 0, none⟩) (by dsimp only; omega) (.slice (some ⟨gO, 0, none⟩) ZS.length ZS.length)).setCell (p := ⟨g8, 1, none⟩) (by dsimp only; omega) (.slice (some ⟨gT, 0, none⟩) ZS.length ZS.length)
            have SB8 := (B8.set (i := 0) (.slice (some ⟨gO, 0, none⟩) ZS.length ZS.length)).set (i := 1) (.slice (some ⟨gT, 0, none⟩) ZS.length ZS.length)
            simp only [List.setIfInBounds_toArray, List.set_cons_zero, List.set_cons_succ] at SB8
            have SRO := (RO.other (g := g8) (o := 0) (v := (.slice (some ⟨gO, 0, none⟩) ZS.length ZS.length)) (by omega)).other (g := g8) (o := 1) (v := (.slice (some ⟨gT, 0, none⟩) ZS.length ZS.length)) (by omega)
            have SRT := (RT.other (g := g8) (o := 0) (v := (.slice (some ⟨gO, 0, none⟩) ZS.length ZS.length)) (by omega)).other (g := g8) (o := 1) (v := (.slice (some ⟨gT, 0, none⟩) ZS.length ZS.length)) (by omega)
            have hse : ((wB.setCell ⟨g8, 0, none⟩ (.slice (some ⟨gO, 0, none⟩) ZS.length ZS.length)).setCell ⟨g8, 1, none⟩ (.slice (some ⟨gT, 0, none⟩) ZS.length ZS.length)).heap.size = wB.heap.size := by simp [World.setCell]
            go_simp
            (try go_wp2_with fail)
            refine hko hK (Blk.l4 (BV.below Shb)) fun hHeld => ?_
            clear hK K
            clear z0 z1 zf zl hbS B8 RO RT
            generalize ((wB.setCell ⟨g8, 0, none⟩ (.slice (some ⟨gO, 0, none⟩) ZS.length ZS.length)).setCell ⟨g8, 1, none⟩ (.slice (some ⟨gT, 0, none⟩) ZS.length ZS.length)) = wE at *
            have hbS := Shb
            have B8 := SB8
            have RO := SRO
            have RT := SRT
            clear Shb SB8 SRO SRT
            refine wpAnyH_done (by kernel_rfl) ?_ _
            clear hHeld
            (try go_wp2_with fail)
            go_meet
            case rel => exact ⟨g8, gO, gT, rfl, B8, RO, RT, by omega, by omega, by omega, by omega, by omega, hbS⟩
        case rest =>
          obtain ⟨gB, gO, gT, rfl, BB, RO, RT, q1, q2, q3, q4, q5, hbS⟩ := hcut
          replace BV := BV.below hbS
          replace BO := BO.below hbS
          replace hb := chain hb hbS
          have neT : gT ≠ gB := Row.neL RT BB (by decide)
          have hXL : xs.length = H := by have := HXL.out; omega
          have hYL : ys.length = H := by have := HYL.out; omega
          have HXL2 := Lib.hid hXL
          have HYL2 := Lib.hid hYL
          clear hXL hYL hbS
          replace RO : Row wc gO (flX xs P 0) := RO.wf HZS.out.symm
          replace RT : Row wc gT (flX ys P 0) := RT.wf HZS.out.symm
          go_wp2_with fail
          go_loopg [9] H (fun mm q9 wr => ∃ k : Nat, k ≤ H ∧ mm = H - k ∧ q9 = .int .i64 k ∧ Blk wr w.heap.size #[.int .i64 (P : Int), .int .i64 c, .int .i64 (H : Int), .int .i64 s] 29 ∧ Blk wr (w.heap.size + 1) #[.slice none 0 0, .slice none 0 0] 26 ∧ Blk wr gB #[.slice (some ⟨gO, 0, none⟩) ZS.length ZS.length, .slice (some ⟨gT, 0, none⟩) ZS.length ZS.length] 26 ∧ Row wr gO (flX xs P k) ∧ Row wr gT (flX ys P k) ∧ gT < wr.heap.size ∧ Below w.heap.size w wr)
          case atStart => exact ⟨0, by omega, by omega, by go_num, BV, BO, BB, RO, RT, q3, hb⟩
          case round =>
            clear BV BO BB RO RT hb q3
            obtain ⟨k, hk, hmm, rfl, BV, BO, BB, RO, RT, q3, hb⟩ := hrel
            by_cases hlt : k < H
            · have hlt' : (k : Int) < (H : Int) := by omega
              have hk0 : (0 : Int) ≤ (k : Int) := by omega
              have hP := HP24.out
              have hkz : (k : Int) < (ZS.length : Int) := by rw [HZL.out]; omega
              have hkx : (k : Int) < (xs.length : Int) := by rw [HXL2.out]; exact hlt'
              have hky : (k : Int) < (ys.length : Int) := by rw [HYL2.out]; exact hlt'
              obtain ⟨b1, o1, rfl, hc0⟩ := HR1.out.below hb k (by omega)
              obtain ⟨b2, o2, rfl, hc1⟩ := HR2.out.below hb k (by omega)
              obtain ⟨x, hx⟩ : ∃ x, xs.getD k 0 = x := ⟨_, rfl⟩
              obtain ⟨y, hy⟩ : ∃ y, ys.getD k 0 = y := ⟨_, rfl⟩
              have HFX := Lib.hid (fl_step xs P k (by omega) (by omega))
              have HFY := Lib.hid (fl_step ys P k (by omega) (by omega))
              rw [hx] at hc0 HFX
              rw [hy] at hc1 HFY
              have HYV := Lib.hid hy
              clear hx hy hP
              obtain ⟨x0, x1, x2, x3, xf, xl⟩ := BV.four
              obtain ⟨y0, y1, yf, yl⟩ := BB.two
              have tc := RO.cell k (by rw [flX_length _ _ _ (by omega) (by have := HP24.out; omega)]; have := HP24.out; omega)
              have tf := RO.free k
              go_upto_region 9 with (fail)
              clear x0 x1 x2 x3 xf xl
              go_region
              have hbw := hb.size
              clear tc tf y0 y1 yf yl hc1 hc0
              replace BV := (BV.other (g := gO) (o := k) (v := .int .i64 x) (by omega)).drew
              replace BO := (BO.other (g := gO) (o := k) (v := .int .i64 x) (by omega)).drew
              replace BB := (BB.other (g := gO) (o := k) (v := .int .i64 x) (by omega)).drew
              replace RO := ((RO.set k x).wf HFX.out).drew
              replace RT := (RT.other (g := gO) (o := k) (v := .int .i64 x) (by omega)).drew
              replace hb := (hb.setCell (p := ⟨gO, k, none⟩) (by dsimp only; omega) (.int .i64 x)).drew
              replace q3 : gT < (wr.setCell ⟨gO, k, none⟩ (.int .i64 x)).drew.heap.size := by
                have e : (wr.setCell ⟨gO, k, none⟩ (.int .i64 x)).drew.heap.size = wr.heap.size := by simp [World.setCell, World.drew]
                omega
              generalize (wr.setCell ⟨gO, k, none⟩ (.int .i64 x)).drew = wm at *
              obtain ⟨b2', o2', ea, hc1⟩ := HR2.out.below hb k (by omega)
              simp only [Option.some.injEq, Addr.mk.injEq, and_true] at ea
              obtain ⟨rfl, rfl⟩ := ea
              rw [HYV.out] at hc1
              obtain ⟨y0, y1, yf, yl⟩ := BB.two
              have tc := RT.cell k (by rw [flX_length _ _ _ (by omega) (by have := HP24.out; omega)]; have := HP24.out; omega)
              have tf := RT.free k
              go_upto_region 10 with (fail)
              go_region
              clear tc tf y0 y1 yf yl hc1
              replace BV := (BV.other (g := gT) (o := k) (v := .int .i64 y) (by omega)).drew
              replace BO := (BO.other (g := gT) (o := k) (v := .int .i64 y) (by omega)).drew
              replace BB := (BB.other (g := gT) (o := k) (v := .int .i64 y) (by omega)).drew
              replace RT := ((RT.set k y).wf HFY.out).drew
              replace RO := (RO.other (g := gT) (o := k) (v := .int .i64 y) (by omega)).drew
              replace hb := (hb.setCell (p := ⟨gT, k, none⟩) (by dsimp only; omega) (.int .i64 y)).drew
              replace q3 : gT < (wm.setCell ⟨gT, k, none⟩ (.int .i64 y)).drew.heap.size := by
                have e : (wm.setCell ⟨gT, k, none⟩ (.int .i64 y)).drew.heap.size = wm.heap.size := by simp [World.setCell, World.drew]
                omega
              generalize (wm.setCell ⟨gT, k, none⟩ (.int .i64 y)).drew = wn at *
              go_wp2
              go_roundg (H - (k + 1))
              case measure => omega
              case rel => exact ⟨k + 1, by omega, rfl, by go_num, BV, BO, BB, RO, RT, q3, hb⟩
            · obtain rfl : k = H := by omega
              have hP := HP24.out
              have hxl := HXL2.out
              have hyl := HYL2.out
              have hlx : (flX xs P k).length = ZS.length := by rw [HZL.out]; exact flX_length xs P k (by omega) (by omega)
              have hly : (flX ys P k).length = ZS.length := by rw [HZL.out]; exact flX_length ys P k (by omega) (by omega)
              have eX : rbX (P : Int) (k : Int) xs = flX xs P k := by
                unfold flX rbX
                rw [List.take_of_length_le (by omega), show ((P : Int) + 1 - (k : Int)).toNat = P + 1 - k by omega]
              have eY : rbX (P : Int) (k : Int) ys = flX ys P k := by
                unfold flX rbX
                rw [List.take_of_length_le (by omega), show ((P : Int) + 1 - (k : Int)).toNat = P + 1 - k by omega]
              have hrk := HRK.out
              unfold rbB at hrk
              rw [eX, eY] at hrk
              obtain ⟨X, hX⟩ : ∃ X, flX xs P k = X := ⟨_, rfl⟩
              obtain ⟨Y, hY⟩ : ∃ Y, flX ys P k = Y := ⟨_, rfl⟩
              rw [hX] at hrk hlx eX RO
              rw [hY] at hrk hly eY RT
              have hzl := HZL.out
              have hib := fun (W : World) (r1 : IRow W (some ⟨gO, 0, none⟩) X) (r2 : IRow W (some ⟨gT, 0, none⟩) Y) => specIsBoard_any (P : Int) c (k : Int) s (some ⟨gO, 0, none⟩) (some ⟨gT, 0, none⟩) ZS.length ZS.length ZS.length ZS.length X Y W hlx hly (by omega) (by omega) r1 r2
              have hic := fun (W : World) (r1 : IRow W (some ⟨gO, 0, none⟩) X) (r2 : IRow W (some ⟨gT, 0, none⟩) Y) => l02Contact_any (P : Int) c (k : Int) s (some ⟨gO, 0, none⟩) (some ⟨gT, 0, none⟩) ZS.length ZS.length ZS.length ZS.length X Y W hlx hly (by omega) (by omega) r1 r2 (by omega) (by omega) (by omega) (by omega)
              obtain ⟨b1, hb1e⟩ : ∃ b, isB (P : Int) c (k : Int) s X Y = b := ⟨_, rfl⟩
              obtain ⟨b2, hb2e⟩ : ∃ b, contB (P : Int) X Y = b := ⟨_, rfl⟩
              rw [hb1e, hb2e] at hrk
              rw [hb1e] at hib
              rw [hb2e] at hic
              have HIB := Lib.hid hib
              have HIC := Lib.hid hic
              have HLX := Lib.hid hlx
              have HLY := Lib.hid hly
              have HXE := Lib.hid eX
              have HYE := Lib.hid eY
              clear HRK
              have HRK := Lib.hid hrk
              clear hib hic hlx hly eX eY hrk hX hY hb1e hb2e hzl hP hxl hyl
              obtain ⟨x0, x1, x2, x3, xf, xl⟩ := BV.four
              obtain ⟨y0, y1, yf, yl⟩ := BB.two
              go_wp2_with fail
              clear x0 x1 x2 x3 xf xl y0 y1 yf yl
              refine (HIB.out _ RO.irow RT.irow).mono ?_
              rintro e w9 ⟨rfl, hb9⟩
              replace BV := BV.below hb9; replace BO := BO.below hb9; replace BB := BB.below hb9; replace RO := RO.below hb9; replace RT := RT.below hb9; replace hb := chain hb hb9
              have hs9 := hb9.size
              clear hb9
              obtain ⟨x0, x1, x2, x3, xf, xl⟩ := BV.four
              obtain ⟨y0, y1, yf, yl⟩ := BB.two
              cases b1 with
              | false =>
                clear x0 x1 x2 x3 xf xl y0 y1 yf yl
                obtain ⟨z0, z1, zf, zl⟩ := BO.two
                go_wp2_with fail
                have MO := (BO.set (i := 0) (.slice none 0 0)).set (i := 1) (.slice none 0 0)
                simp only [List.setIfInBounds_toArray, List.set_cons_zero, List.set_cons_succ] at MO
                have hM := (hb.setCell (p := ⟨w.heap.size + 1, 0, none⟩) (by simp <;> omega) (.slice none 0 0)).setCell (p := ⟨w.heap.size + 1, 1, none⟩) (by simp <;> omega) (.slice none 0 0)
                clear z0 z1 zf zl
                generalize ((w9.setCell ⟨w.heap.size + 1, 0, none⟩ (.slice none 0 0)).setCell ⟨w.heap.size + 1, 1, none⟩ (.slice none 0 0)) = we at *
                obtain ⟨z0, z1, zf, zl⟩ := MO.two
                refine bodyPost_ret (v := .tuple #[.agg #[.slice none 0 0, .slice none 0 0], .int .i64 5]) (by simp [results, Try.results4, go_sem, z0, z1]) rfl ?_
                rw [HRK.out]
                exact ⟨fun e => absurd e (by simp), fun _ => by simp, hM⟩
              | true =>
                go_wp2_with fail
                clear x0 x1 x2 x3 xf xl y0 y1 yf yl
                refine (HIC.out _ RO.irow RT.irow).mono ?_
                rintro e wb ⟨rfl, hbb⟩
                replace BV := BV.below hbb; replace BO := BO.below hbb; replace BB := BB.below hbb; replace RO := RO.below hbb; replace RT := RT.below hbb; replace hb := chain hb hbb
                have hsb := hbb.size
                clear hbb
                cases b2 with
                | true =>
                  obtain ⟨z0, z1, zf, zl⟩ := BO.two
                  go_wp2_with fail
                  have MO := (BO.set (i := 0) (.slice none 0 0)).set (i := 1) (.slice none 0 0)
                  simp only [List.setIfInBounds_toArray, List.set_cons_zero, List.set_cons_succ] at MO
                  have hM := (hb.setCell (p := ⟨w.heap.size + 1, 0, none⟩) (by simp <;> omega) (.slice none 0 0)).setCell (p := ⟨w.heap.size + 1, 1, none⟩) (by simp <;> omega) (.slice none 0 0)
                  clear z0 z1 zf zl
                  generalize ((wb.setCell ⟨w.heap.size + 1, 0, none⟩ (.slice none 0 0)).setCell ⟨w.heap.size + 1, 1, none⟩ (.slice none 0 0)) = we at *
                  obtain ⟨z0, z1, zf, zl⟩ := MO.two
                  refine bodyPost_ret (v := .tuple #[.agg #[.slice none 0 0, .slice none 0 0], .int .i64 5]) (by simp [results, Try.results4, go_sem, z0, z1]) rfl ?_
                  rw [HRK.out]
                  exact ⟨fun e => absurd e (by simp), fun _ => by simp, hM⟩
                | false =>
                  obtain ⟨y0, y1, yf, yl⟩ := BB.two
                  obtain ⟨z0, z1, zf, zl⟩ := BO.two
                  go_wp2_with fail
                  have MO := (BO.set (i := 0) (.slice (some ⟨gO, 0, none⟩) ZS.length ZS.length)).set (i := 1) (.slice (some ⟨gT, 0, none⟩) ZS.length ZS.length)
                  simp only [List.setIfInBounds_toArray, List.set_cons_zero, List.set_cons_succ] at MO
                  have hM := (hb.setCell (p := ⟨w.heap.size + 1, 0, none⟩) (by simp <;> omega) (.slice (some ⟨gO, 0, none⟩) ZS.length ZS.length)).setCell (p := ⟨w.heap.size + 1, 1, none⟩) (by simp <;> omega) (.slice (some ⟨gT, 0, none⟩) ZS.length ZS.length)
                  have ROn := (RO.other (g := w.heap.size + 1) (o := 0) (v := .slice (some ⟨gO, 0, none⟩) ZS.length ZS.length) (by omega)).other (g := w.heap.size + 1) (o := 1) (v := .slice (some ⟨gT, 0, none⟩) ZS.length ZS.length) (by omega)
                  have RTn := (RT.other (g := w.heap.size + 1) (o := 0) (v := .slice (some ⟨gO, 0, none⟩) ZS.length ZS.length) (by omega)).other (g := w.heap.size + 1) (o := 1) (v := .slice (some ⟨gT, 0, none⟩) ZS.length ZS.length) (by omega)
                  have hse : wb.heap.size = ((wb.setCell ⟨w.heap.size + 1, 0, none⟩ (.slice (some ⟨gO, 0, none⟩) ZS.length ZS.length)).setCell ⟨w.heap.size + 1, 1, none⟩ (.slice (some ⟨gT, 0, none⟩) ZS.length ZS.length)).heap.size := by simp [World.setCell]
                  clear z0 z1 zf zl y0 y1 yf yl
                  generalize ((wb.setCell ⟨w.heap.size + 1, 0, none⟩ (.slice (some ⟨gO, 0, none⟩) ZS.length ZS.length)).setCell ⟨w.heap.size + 1, 1, none⟩ (.slice (some ⟨gT, 0, none⟩) ZS.length ZS.length)) = we at *
                  obtain ⟨z0, z1, zf, zl⟩ := MO.two
                  refine bodyPost_ret (v := .tuple #[.agg #[.slice (some ⟨gO, 0, none⟩) ZS.length ZS.length, .slice (some ⟨gT, 0, none⟩) ZS.length ZS.length], .int .i64 0]) (by simp [results, Try.results4, go_sem, z0, z1]) rfl ?_
                  rw [HXE.out, HYE.out, HRK.out]
                  exact ⟨fun _ => ⟨some ⟨gO, 0, none⟩, some ⟨gT, 0, none⟩, ZS.length, ZS.length, gT, gT + 1, by rw [HLX.out, HLY.out], .inr ⟨gO, rfl, by omega, by omega, ROn⟩, .inr ⟨gT, rfl, by omega, by omega, RTn⟩, by omega, by omega⟩, fun e => absurd rfl e, hM⟩
end Go.Proofs.Ytdciiocmddlhfaa
