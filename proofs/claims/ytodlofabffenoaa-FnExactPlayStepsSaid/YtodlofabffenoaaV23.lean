/- Texts of a proof, laid together. -/
import Derived.Test.YtodlofabffenoaaV13
import Derived.Test.YtodlofabffenoaaV22
import Derived.Test.YtodlofabffenoaaV20
import Derived.Test.YtodlofabffenoaaV21
namespace Go.Proofs.Ytodlofabffenoaa
open Go.ChangeShapes Go.WideShapes Go.ChangeAt Go.RowKit
set_option linter.unusedVariables false
set_option linter.unusedSimpArgs false
set_option maxRecDepth 4000
theorem legalO_of {P : Nat} {h ra rb : Int} {xs ys : List Int} {L : List LI} (hL : Liss P h xs ys ra rb L) (hT : L.map (fun x => x.1.2) = ordersP ra rb) : (legalL L).map (fun x => x.1.2) = legalO P h xs ys (usedP P h xs ys ra rb) (ordersP ra rb) := by
  have hf : (L.filter (fun x => x.2.2.2.length - 1 == usedP P h xs ys ra rb)).map (fun x => x.1.2) = (L.map (fun x => x.1.2)).filter (fun o => longN P h o (startP xs ys) == usedP P h xs ys ra rb) := by
    rw [List.filter_map]
    congr 1
    apply List.filter_congr
    intro x hx
    rw [hL.len x hx]
    simp
  unfold legalL keepL legalO
  rw [hL.used, ← hT]
  split
  · rw [List.map_take, hf]
  · exact hf
def psO (P : Nat) (h s : Int) (xs ys : List Int) (ra rb : Int) (ts : List Stp) : Option (List Int × List Int) := if ts.length = usedP P h xs ys ra rb then firstF P h s xs ys ts (legalO P h xs ys (usedP P h xs ys ra rb) (ordersP ra rb)) else none
def psR (p c h s : Int) (xs ys : List Int) (ra rb : Int) (ts : List Stp) : Option (List Int × List Int) := if codeB p c h s xs ys ra rb = 0 then psO p.toNat h s xs ys ra rb ts else none
def psK (p c h s : Int) (xs ys : List Int) (ra rb : Int) : Int := if codeB p c h s xs ys ra rb = 0 then 5 else codeB p c h s xs ys ra rb
def PsGot (r : Option (List Int × List Int)) (k : Int) (w : World) (e : Ending) (w' : World) : Prop := match r with
  | some b => ∃ g1 g2, e = .returned (.tuple #[.agg #[.slice (some ⟨g1, 0, none⟩) b.1.length b.1.length, .slice (some ⟨g2, 0, none⟩) b.2.length b.2.length], .int .i64 0]) ∧ w.heap.size ≤ g1 ∧ w.heap.size ≤ g2 ∧ g1 ≠ g2 ∧ Row w' g1 b.1 ∧ Row w' g2 b.2 ∧ Below w.heap.size w w'
  | none => e = .returned (.tuple #[.agg #[.slice none 0 0, .slice none 0 0], .int .i64 k]) ∧ Below w.heap.size w w'
theorem four_newB (w : World) (a b c d : Array Value) (t1 t2 t3 t4 : TypeId) :
    Blk ((((w.alloc (.cells a t1)).alloc (.cells b t2)).alloc (.cells c t3)).alloc (.cells d t4)) w.heap.size a t1 ∧
    Blk ((((w.alloc (.cells a t1)).alloc (.cells b t2)).alloc (.cells c t3)).alloc (.cells d t4)) (w.heap.size + 1) b t2 ∧
    Blk ((((w.alloc (.cells a t1)).alloc (.cells b t2)).alloc (.cells c t3)).alloc (.cells d t4)) (w.heap.size + 1 + 1) c t3 ∧
    Blk ((((w.alloc (.cells a t1)).alloc (.cells b t2)).alloc (.cells c t3)).alloc (.cells d t4)) (w.heap.size + 1 + 1 + 1) d t4 ∧
    Below w.heap.size w ((((w.alloc (.cells a t1)).alloc (.cells b t2)).alloc (.cells c t3)).alloc (.cells d t4)) := by
  have h1 := Blk.new w a t1
  have h2 := Blk.new (w.alloc (.cells a t1)) b t2
  have h3 := Blk.new ((w.alloc (.cells a t1)).alloc (.cells b t2)) c t3
  have h4 := Blk.new (((w.alloc (.cells a t1)).alloc (.cells b t2)).alloc (.cells c t3)) d t4
  rw [World.size_alloc] at h2
  rw [World.size_alloc, World.size_alloc] at h3
  rw [World.size_alloc, World.size_alloc, World.size_alloc] at h4
  refine ⟨((h1.alloc _).alloc _).alloc _, (h2.alloc _).alloc _, h3.alloc _, h4, ?_⟩
  exact ((((Below.refl _ _).alloc (Nat.le_refl _) _).alloc (by simp) _).alloc (by simp; omega) _).alloc (by simp; omega) _
set_option maxRecDepth 100000 in
set_option maxHeartbeats 3000000 in
theorem implPlaySteps_any (p c h s : Int) (a1 a2 : Option Addr) (n1 n2 c1 c2 : Nat) (xs ys : List Int) (ra rb : Int) (at_ : Option Addr) (nt ct : Nat) (ts : List Stp) (w : World) (h1 : xs.length = n1) (h2 : ys.length = n2) (l1 : n1 ≤ 1048576) (l2 : n2 ≤ 1048576) (r1 : IRow w a1 xs) (r2 : IRow w a2 ys) (hts : ts.length = nt) (hle : nt ≤ 1048576) (rt : 0 < nt → ∃ gt, at_ = some ⟨gt, 0, none⟩ ∧ SRow w gt ts) :
    Calls Try.prog 11 #[.agg #[.int .i64 p, .int .i64 c, .int .i64 h, .int .i64 s], .agg #[.slice a1 n1 c1, .slice a2 n2 c2], .agg #[.int .i64 ra, .int .i64 rb], .slice at_ nt ct] w (PsGot (psR p c h s xs ys ra rb ts) (psK p c h s xs ys ra rb) w) := by
  subst h1 h2
  have hrc := fun W (q1 : IRow W a1 xs) (q2 : IRow W a2 ys) => rollCode_any ra rb p c h s a1 a2 _ _ c1 c2 xs ys W rfl rfl l1 l2 q1 q2
  have HRT := Lib.hid rt
  have HTS := Lib.hid hts
  obtain ⟨BV, BB, BR, BO, hb⟩ := four_newB w #[.int .i64 p, .int .i64 c, .int .i64 h, .int .i64 s] #[.slice a1 xs.length c1, .slice a2 ys.length c2] #[.int .i64 ra, .int .i64 rb] #[.slice none 0 0, .slice none 0 0] 35 32 38 32
  replace r1 := r1.below hb
  replace r2 := r2.below hb
  clear rt hts
  obtain ⟨x0, x1, x2, x3, xf, xl⟩ := BV.four; obtain ⟨y0, y1, yf, yl⟩ := BB.two; obtain ⟨u0, u1, uf, ul⟩ := BR.two
  by_cases k0 : codeB p c h s xs ys ra rb = 0
  · have e1 : psR p c h s xs ys ra rb ts = psO p.toNat h s xs ys ra rb ts := by unfold psR; rw [if_pos k0]
    have e2 : psK p c h s xs ys ra rb = 5 := by unfold psK; rw [if_pos k0]
    rw [e1, e2]
    rw [k0] at hrc
    have g : isB p c h s xs ys = true := by
      by_cases g : isB p c h s xs ys = true
      · exact g
      · unfold codeB at k0; rw [if_neg g] at k0; cases k0
    have gr : rlB s ra rb = true := by
      unfold codeB at k0
      rw [if_pos g] at k0
      by_cases gr : rlB s ra rb = true
      · exact gr
      · rw [if_neg gr] at k0; cases k0
    obtain ⟨P, rfl⟩ := Int.eq_ofNat_of_zero_le (by have := (isB_parts g).1; omega : 0 ≤ p)
    rw [show ((P : Nat) : Int).toNat = P from rfl]
    obtain ⟨ga, gbb⟩ := rlB_two gr
    have hlo := fun W (q1 : IRow W a1 xs) (q2 : IRow W a2 ys) => listingsOf_any P c h s ra rb a1 a2 _ _ c1 c2 xs ys W rfl rfl q1 q2 g ga gbb
    obtain ⟨R, hR⟩ : ∃ R, psO P h s xs ys ra rb ts = R := ⟨_, rfl⟩
    rw [hR]
    have HR := Lib.hid hR
    have HRC := Lib.hid hrc
    have HLO := Lib.hid hlo
    have HG := Lib.hid g
    clear hrc hlo hR e1 e2 k0 g gr ga gbb
    go_enter Try.func11, Try.ntmps11
    go_wp2_with fail
    generalize ((((w.alloc (.cells #[.int .i64 (P : Int), .int .i64 c, .int .i64 h, .int .i64 s] 35)).alloc (.cells #[.slice a1 xs.length c1, .slice a2 ys.length c2] 32)).alloc (.cells #[.int .i64 ra, .int .i64 rb] 38)).alloc (.cells #[.slice none 0 0, .slice none 0 0] 32)) = v0 at *
    go_wp2_with (first | (go_at_call 25; refine (HRC.out _ r1 r2).mono ?_; rintro e w1 ⟨rfl, hb1⟩; replace BV := BV.below hb1; replace BB := BB.below hb1; replace BR := BR.below hb1; replace BO := BO.below hb1; replace r1 := r1.below hb1; replace r2 := r2.below hb1; replace hb := chain hb hb1; clear x0 x1 x2 x3 xf xl y0 y1 yf yl u0 u1 uf ul; obtain ⟨x0, x1, x2, x3, xf, xl⟩ := BV.four; obtain ⟨y0, y1, yf, yl⟩ := BB.two; obtain ⟨u0, u1, uf, ul⟩ := BR.two) | (go_at_call 26; refine (HLO.out _ r1 r2).mono ?_; rintro e w2 ⟨gL, kL, L, rfl, hgL, hgL2, VL, LA, hT, hQ, hP, hb2⟩; replace BV := BV.below hb2; replace BB := BB.below hb2; replace BR := BR.below hb2; replace BO := BO.below hb2; replace r1 := r1.below hb2; replace r2 := r2.below hb2; replace hb := chain hb hb2; clear x0 x1 x2 x3 xf xl y0 y1 yf yl u0 u1 uf ul; obtain ⟨x0, x1, x2, x3, xf, xl⟩ := BV.four; obtain ⟨y0, y1, yf, yl⟩ := BB.two; obtain ⟨u0, u1, uf, ul⟩ := BR.two))
    have hLi := liss_of (h := h) hT hQ
    have hOO := legalO_of hLi hT
    have hmem := fun x (hx : x ∈ legalL L) => legalL_mem hx
    have hlen : ∀ x ∈ L, 0 < x.2.2.2.length ∧ x.2.2.2.length ≤ 1000 := fun x hx => by
      have q1 := hLi.len x hx
      have q2 := longN_le P h x.1.2 (startP xs ys)
      have q3 := hLi.four x hx
      omega
    have hU4 : usedL L ≤ 1000 := by have := hLi.low L.length; unfold usedLTo at this; rw [List.take_length] at this; omega
    have hLG := legal_any gL kL L w2 VL hlen (by have := hLi.two; omega) hU4 (fun i => by have := hLi.low i; omega) hLi.pos
    have RO : ∀ x ∈ L, Row w2 x.1.1 x.1.2 := fun x hx => (LA x hx).1
    have hRR : R = if nt = usedP P h xs ys ra rb then firstF P h s xs ys ts ((legalL L).map (fun x => x.1.2)) else none := by
      rw [hOO, ← HR.out, psO, HTS.out]
    have hux : ∀ x ∈ legalL L, x.2.2.2.length - 1 = usedP P h xs ys ra rb ∧ x.1.2.length ≤ 4 ∧ usedP P h xs ys ra rb ≤ x.1.2.length := fun x hx => by
      obtain ⟨m1, m2⟩ := hmem x hx
      have q1 := hLi.len x m1
      have q2 := longN_le P h x.1.2 (startP xs ys)
      have q3 := hLi.four x m1
      have q4 := hLi.used
      omega
    obtain ⟨U, hU⟩ : ∃ U, usedP P h xs ys ra rb = U := ⟨_, rfl⟩
    rw [hU] at hRR hux
    unfold LegGot at hLG
    obtain ⟨LG, hLGe⟩ : ∃ z, legalL L = z := ⟨_, rfl⟩
    rw [hLGe] at hLG hRR hux hmem
    have hl2 : LG.length ≤ 2 := by
      rw [← hLGe]
      have q1 : (legalL L).length ≤ L.length := by
        unfold legalL keepL
        split
        · exact Nat.le_trans (by rw [List.length_take]; exact Nat.min_le_right _ _) (List.length_filter_le _ _)
        · exact List.length_filter_le _ _
      have := hLi.two
      omega
    have HLG := Lib.hid hLG
    have HUX := Lib.hid hux
    have HMEM := Lib.hid hmem
    have HLEN := Lib.hid hlen
    have HRR := Lib.hid hRR
    have HFO := Lib.hid (fun ox nox cox W ao (q1 : IRow W a1 xs) (q2 : IRow W a2 ys) => follow_any P c h s a1 a2 _ _ c1 c2 xs ys ao nox cox ox at_ nt ct ts W rfl rfl HG.out q1 q2)
    clear hLi hOO hmem hlen hU4 hLG hRR hux hU hLGe hT hQ hP LA VL
    clear x0 x1 x2 x3 xf xl y0 y1 yf yl u0 u1 uf ul
    refine (HLG.out).mono ?_
    rintro e w3 ⟨gG, kG, rfl, hgG, VG, hb3⟩
    replace BV := BV.below hb3
    replace BB := BB.below hb3
    replace BR := BR.below hb3
    replace BO := BO.below hb3
    replace r1 := r1.below hb3
    replace r2 := r2.below hb3
    replace hb := chain hb hb3
    replace RO : ∀ x ∈ L, Row w3 x.1.1 x.1.2 := fun x hx => (RO x hx).below hb3
    clear hb3 HLG
    go_wp2_with fail
    go_loopg [29] LG.length (fun m i wr => ∃ k : Nat, k ≤ LG.length ∧ m = LG.length - k ∧ i = .int .i64 k ∧ R = (if nt = U then firstF P h s xs ys ts ((LG.drop k).map (fun x => x.1.2)) else none) ∧ (∀ x ∈ L, Row wr x.1.1 x.1.2) ∧ VRow wr gG (LG.flatMap liC) 65 ∧ Blk wr w.heap.size #[.int .i64 (P : Int), .int .i64 c, .int .i64 h, .int .i64 s] 35 ∧ Blk wr (w.heap.size + 1) #[.slice a1 xs.length c1, .slice a2 ys.length c2] 32 ∧ Blk wr (w.heap.size + 1 + 1 + 1) #[.slice none 0 0, .slice none 0 0] 32 ∧ IRow wr a1 xs ∧ IRow wr a2 ys ∧ Below w.heap.size w wr)
    case atStart => exact ⟨0, by omega, by omega, rfl, HRR.out, RO, VG, BV, BB, BO, r1, r2, hb⟩
    case round =>
      clear RO VG BV BB BO BR r1 r2 hb
      obtain ⟨k, hk, hm, rfl, hRk, RO, VG, BV, BB, BO, r1, r2, hb⟩ := hrel
      have hB4w : w.heap.size + 1 + 1 + 1 < wr.heap.size := BO.lt
      by_cases hlt : k < LG.length
      · have hlt' : (k : Int) < (LG.length : Int) := by omega
        have hk0 : (0 : Int) ≤ (k : Int) := by omega
        have hk1 : (k : Int) ≤ 1000 := by omega
        obtain ⟨⟨⟨gx, ox⟩, gy, kx, lx⟩, hx⟩ : ∃ x, LG[k]? = some x := ⟨LG[k]'hlt, List.getElem?_eq_getElem hlt⟩
        have hxm := List.mem_of_getElem? hx
        obtain ⟨cx, cy⟩ := liRow VG k _ hx
        obtain ⟨ux, o4, uo⟩ := HUX.out _ hxm
        have xl := HMEM.out _ hxm
        have hxl := HLEN.out _ xl.1
        have Rx := RO _ xl.1
        have hdr : LG.drop k = ((gx, ox), gy, kx, lx) :: LG.drop (k + 1) := by
          rw [List.drop_eq_getElem_cons hlt]
          congr 1
          exact (List.getElem?_eq_some_iff.1 hx).2
        rw [hdr, List.map_cons, firstF] at hRk
        dsimp only at cx cy ux o4 uo hxl Rx hRk
        have hu1 := fun W => used1_any ((gx, ox), gy, kx, lx) W hxl.1 hxl.2
        dsimp only at hu1
        rw [ux] at hu1
        have HRK := Lib.hid hRk
        have HU1 := Lib.hid hu1
        have HO4 := Lib.hid (And.intro o4 uo)
        clear hRk hu1 hdr hx hxm xl hxl ux o4 uo
        obtain ⟨x0, x1, x2, x3, xf, xlt⟩ := BV.four
        obtain ⟨y0, y1, yf, ylt⟩ := BB.two
        have BX := Blk.new wr #[.slice (some ⟨gx, 0, none⟩) ox.length ox.length, .slice (some ⟨gy, 0, none⟩) lx.length kx] 65
        have hal : Below wr.heap.size wr (wr.alloc (.cells #[.slice (some ⟨gx, 0, none⟩) ox.length ox.length, .slice (some ⟨gy, 0, none⟩) lx.length kx] 65)) := (Below.refl _ _).alloc (Nat.le_refl _) _
        go_wp2_with fail
        clear cx cy x0 x1 x2 x3 xf xlt y0 y1 yf ylt
        replace RO : ∀ x ∈ L, Row (wr.alloc (.cells #[.slice (some ⟨gx, 0, none⟩) ox.length ox.length, .slice (some ⟨gy, 0, none⟩) lx.length kx] 65)) x.1.1 x.1.2 := fun x hx => (RO x hx).below hal
        replace VG := VRow.below VG hal
        replace BV := BV.below hal
        replace BB := BB.below hal
        replace BO := BO.below hal
        replace r1 := r1.below hal
        replace r2 := r2.below hal
        replace Rx := Rx.below hal
        replace hb := chain hb hal
        clear hal
        generalize (wr.alloc (.cells #[.slice (some ⟨gx, 0, none⟩) ox.length ox.length, .slice (some ⟨gy, 0, none⟩) lx.length kx] 65)) = v2 at *
        refine (HU1.out _).mono ?_
        rintro e w4 ⟨rfl, hb4⟩
        replace RO : ∀ x ∈ L, Row w4 x.1.1 x.1.2 := fun x hx => (RO x hx).below hb4
        replace VG := VRow.below VG hb4
        replace BV := BV.below hb4
        replace BB := BB.below hb4
        replace BO := BO.below hb4
        replace BX := BX.below hb4
        replace r1 := r1.below hb4
        replace r2 := r2.below hb4
        replace Rx := Rx.below hb4
        replace hb := chain hb hb4
        clear hb4 HU1
        by_cases hnu : nt = U
        · have f0 : ((nt : Int) != (U : Int)) = false := by rw [bne_eq_false_iff_eq]; omega
          have hfo := HFO.out ox ox.length ox.length w4 (some ⟨gx, 0, none⟩) r1 r2 rfl Rx.irow HTS.out (by have := HO4.out; omega) (by have := HO4.out; omega) (fun q => by
            obtain ⟨gt, e, SR⟩ := HRT.out q
            exact ⟨gt, e, VRow.below SR hb⟩)
          have hRk := HRK.out
          rw [if_pos hnu] at hRk
          unfold FolGot at hfo
          obtain ⟨x0, x1, x2, x3, xf, xlt⟩ := BV.four
          obtain ⟨y0, y1, yf, ylt⟩ := BB.two
          obtain ⟨b0, b1, bf, bl⟩ := BX.two
          cases hfn : folN P h s ox ts (xs, ys) with
          | some bd =>
            rw [hfn] at hfo hRk
            dsimp only at hfo hRk
            obtain ⟨X, Y⟩ := bd
            dsimp only at hfo
            have HFOk := Lib.hid hfo
            have HRS := Lib.hid hRk
            clear hfo hRk HRK hfn hnu
            go_wp2_with fail
            clear x0 x1 x2 x3 xf xlt y0 y1 yf ylt b0 b1 bf bl
            refine (HFOk.out).mono ?_
            rintro e w5 ⟨g1, g2, rfl, hg1, hg2, hne, R1, R2, hb5⟩
            have hz4 := hb.size
            replace BO := BO.below hb5
            replace hb := chain hb hb5
            have BY := Blk.new w5 #[.slice (some ⟨g1, 0, none⟩) X.length X.length, .slice (some ⟨g2, 0, none⟩) Y.length Y.length] 32
            have hal : Below w5.heap.size w5 (w5.alloc (.cells #[.slice (some ⟨g1, 0, none⟩) X.length X.length, .slice (some ⟨g2, 0, none⟩) Y.length Y.length] 32)) := (Below.refl _ _).alloc (Nat.le_refl _) _
            replace BO := BO.below hal
            replace R1 := R1.below hal
            replace R2 := R2.below hal
            replace hb := chain hb hal
            clear hb5 hal
            obtain ⟨y0, y1, yf, ylt⟩ := BY.two
            obtain ⟨z0, z1, zf, zl⟩ := BO.two
            have n1 := rowNe R1 BO (by decide)
            have n2 := rowNe R2 BO (by decide)
            go_wp2_with fail
            generalize (w5.alloc (.cells #[.slice (some ⟨g1, 0, none⟩) X.length X.length, .slice (some ⟨g2, 0, none⟩) Y.length Y.length] 32)) = v5 at *
            have MO := (BO.set (i := 0) (.slice (some ⟨g1, 0, none⟩) X.length X.length)).set (i := 1) (.slice (some ⟨g2, 0, none⟩) Y.length Y.length)
            simp only [List.setIfInBounds_toArray, List.set_cons_zero, List.set_cons_succ] at MO
            have hM := (hb.setCell (p := ⟨w.heap.size + 1 + 1 + 1, 0, none⟩) (by simp <;> omega) (.slice (some ⟨g1, 0, none⟩) X.length X.length)).setCell (p := ⟨w.heap.size + 1 + 1 + 1, 1, none⟩) (by simp <;> omega) (.slice (some ⟨g2, 0, none⟩) Y.length Y.length)
            have M1 := (R1.other (g := w.heap.size + 1 + 1 + 1) (o := 0) (v := .slice (some ⟨g1, 0, none⟩) X.length X.length) n1).other (g := w.heap.size + 1 + 1 + 1) (o := 1) (v := .slice (some ⟨g2, 0, none⟩) Y.length Y.length) n1
            have M2 := (R2.other (g := w.heap.size + 1 + 1 + 1) (o := 0) (v := .slice (some ⟨g1, 0, none⟩) X.length X.length) n2).other (g := w.heap.size + 1 + 1 + 1) (o := 1) (v := .slice (some ⟨g2, 0, none⟩) Y.length Y.length) n2
            clear y0 y1 yf ylt z0 z1 zf zl BO R1 R2 hb
            generalize ((v5.setCell ⟨w.heap.size + 1 + 1 + 1, 0, none⟩ (.slice (some ⟨g1, 0, none⟩) X.length X.length)).setCell ⟨w.heap.size + 1 + 1 + 1, 1, none⟩ (.slice (some ⟨g2, 0, none⟩) Y.length Y.length)) = we at *
            obtain ⟨z0, z1, zf, zl⟩ := MO.two
            refine bodyPost_ret (v := .tuple #[.agg #[.slice (some ⟨g1, 0, none⟩) X.length X.length, .slice (some ⟨g2, 0, none⟩) Y.length Y.length], .int .i64 0]) (by simp [results, Try.results11, go_sem, z0, z1]) rfl ?_
            rw [HRS.out]
            exact ⟨g1, g2, rfl, by omega, by omega, hne, M1, M2, hM⟩
          | none =>
            rw [hfn] at hfo hRk
            dsimp only at hfo hRk
            have HFOk := Lib.hid hfo
            have HRS := Lib.hid hRk
            have HNU := Lib.hid hnu
            clear hfo hRk HRK hfn hnu
            go_wp2_with fail
            clear x0 x1 x2 x3 xf xlt y0 y1 yf ylt b0 b1 bf bl
            refine (HFOk.out).mono ?_
            rintro e w5 ⟨rfl, hb5⟩
            have hal : Below w5.heap.size w5 (w5.alloc (.cells #[.slice none 0 0, .slice none 0 0] 32)) := (Below.refl _ _).alloc (Nat.le_refl _) _
            have hbt := hb5.trans (hal.mono hb5.size)
            replace RO : ∀ x ∈ L, Row (w5.alloc (.cells #[.slice none 0 0, .slice none 0 0] 32)) x.1.1 x.1.2 := fun x hx => (RO x hx).below hbt
            replace VG := VRow.below VG hbt
            replace BV := BV.below hbt
            replace BB := BB.below hbt
            replace BO := BO.below hbt
            replace r1 := r1.below hbt
            replace r2 := r2.below hbt
            replace hb := chain hb hbt
            clear hb5 hal hbt BX Rx
            go_wp2_with fail
            go_roundg (LG.length - (k + 1))
            case measure => omega
            case rel => exact ⟨k + 1, by omega, rfl, by go_num, by rw [if_pos HNU.out]; exact HRS.out, RO, VG, BV, BB, BO, r1, r2, hb⟩
        · have f0 : ((nt : Int) != (U : Int)) = true := by rw [bne_iff_ne]; omega
          have hRk := HRK.out
          rw [if_neg hnu] at hRk
          have HPR := Lib.hid hRk
          clear hRk HRK hnu
          obtain ⟨z0, z1, zf, zl⟩ := BO.two
          go_wp2_with fail
          have MO := (BO.set (i := 0) (.slice none 0 0)).set (i := 1) (.slice none 0 0)
          simp only [List.setIfInBounds_toArray, List.set_cons_zero, List.set_cons_succ] at MO
          have hM := (hb.setCell (p := ⟨w.heap.size + 1 + 1 + 1, 0, none⟩) (by simp <;> omega) (.slice none 0 0)).setCell (p := ⟨w.heap.size + 1 + 1 + 1, 1, none⟩) (by simp <;> omega) (.slice none 0 0)
          clear z0 z1 zf zl
          generalize ((w4.setCell ⟨w.heap.size + 1 + 1 + 1, 0, none⟩ (.slice none 0 0)).setCell ⟨w.heap.size + 1 + 1 + 1, 1, none⟩ (.slice none 0 0)) = we at *
          obtain ⟨z0, z1, zf, zl⟩ := MO.two
          refine bodyPost_ret (v := .tuple #[.agg #[.slice none 0 0, .slice none 0 0], .int .i64 5]) (by simp [results, Try.results11, go_sem, z0, z1]) rfl ?_
          rw [HPR.out]
          exact ⟨rfl, hM⟩
      · obtain rfl : k = LG.length := by omega
        have hlt' : ¬ ((LG.length : Nat) : Int) < (LG.length : Int) := by omega
        have hRk2 : R = none := by rw [hRk, List.drop_length]; split <;> rfl
        have HPR := Lib.hid hRk2
        clear hRk hRk2
        obtain ⟨z0, z1, zf, zl⟩ := BO.two
        go_wp2_with fail
        have MO := (BO.set (i := 0) (.slice none 0 0)).set (i := 1) (.slice none 0 0)
        simp only [List.setIfInBounds_toArray, List.set_cons_zero, List.set_cons_succ] at MO
        have hM := (hb.setCell (p := ⟨w.heap.size + 1 + 1 + 1, 0, none⟩) (by simp <;> omega) (.slice none 0 0)).setCell (p := ⟨w.heap.size + 1 + 1 + 1, 1, none⟩) (by simp <;> omega) (.slice none 0 0)
        clear z0 z1 zf zl
        generalize ((wr.setCell ⟨w.heap.size + 1 + 1 + 1, 0, none⟩ (.slice none 0 0)).setCell ⟨w.heap.size + 1 + 1 + 1, 1, none⟩ (.slice none 0 0)) = we at *
        obtain ⟨z0, z1, zf, zl⟩ := MO.two
        refine bodyPost_ret (v := .tuple #[.agg #[.slice none 0 0, .slice none 0 0], .int .i64 5]) (by simp [results, Try.results11, go_sem, z0, z1]) rfl ?_
        rw [HPR.out]
        exact ⟨rfl, hM⟩
  · have e1 : psR p c h s xs ys ra rb ts = none := by unfold psR; rw [if_neg k0]
    have e2 : psK p c h s xs ys ra rb = codeB p c h s xs ys ra rb := by unfold psK; rw [if_neg k0]
    obtain ⟨K, hK⟩ : ∃ K, codeB p c h s xs ys ra rb = K := ⟨_, rfl⟩
    rw [hK] at hrc e2 k0
    have f0 : (K != 0) = true := by rw [bne_iff_ne]; exact k0
    have HPR := Lib.hid e1
    have HPK := Lib.hid e2
    have HRC := Lib.hid hrc
    clear hrc e1 e2 k0 hK
    go_enter Try.func11, Try.ntmps11
    go_wp2_with (go_at_call 25; refine (HRC.out _ r1 r2).mono ?_; rintro e w1 ⟨rfl, hb1⟩; replace BV := BV.below hb1; replace BB := BB.below hb1; replace BR := BR.below hb1; replace BO := BO.below hb1; replace r1 := r1.below hb1; replace r2 := r2.below hb1; replace hb := chain hb hb1; clear x0 x1 x2 x3 xf xl y0 y1 yf yl u0 u1 uf ul; obtain ⟨x0, x1, x2, x3, xf, xl⟩ := BV.four; obtain ⟨y0, y1, yf, yl⟩ := BB.two; obtain ⟨u0, u1, uf, ul⟩ := BR.two; obtain ⟨z0, z1, zf, zl⟩ := BO.two)
    have MO := (BO.set (i := 0) (.slice none 0 0)).set (i := 1) (.slice none 0 0)
    simp only [List.setIfInBounds_toArray, List.set_cons_zero, List.set_cons_succ] at MO
    have hM := (hb.setCell (p := ⟨w.heap.size + 1 + 1 + 1, 0, none⟩) (by simp <;> omega) (.slice none 0 0)).setCell (p := ⟨w.heap.size + 1 + 1 + 1, 1, none⟩) (by simp <;> omega) (.slice none 0 0)
    clear z0 z1 zf zl
    generalize ((w1.setCell ⟨w.heap.size + 1 + 1 + 1, 0, none⟩ (.slice none 0 0)).setCell ⟨w.heap.size + 1 + 1 + 1, 1, none⟩ (.slice none 0 0)) = we at *
    obtain ⟨z0, z1, zf, zl⟩ := MO.two
    refine bodyPost_ret (v := .tuple #[.agg #[.slice none 0 0, .slice none 0 0], .int .i64 K]) (by simp [results, Try.results11, go_sem, z0, z1]) rfl ?_
    rw [HPR.out, HPK.out]
    exact ⟨rfl, hM⟩
end Go.Proofs.Ytodlofabffenoaa
