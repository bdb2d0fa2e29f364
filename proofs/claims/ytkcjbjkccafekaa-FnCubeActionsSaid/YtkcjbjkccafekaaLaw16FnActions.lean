/- The law of chapter 16 on actions with the cube holds: for every code the law returns true and the code reads behind the call as it read before. No conditions. -/
import Derived.Test.YtkcjbjkccafekaaDraw16b
import Derived.Test.Ytkcjbjkccafekaa16e
import Derived.Test.YtkcjbjkccafekaaM16b
import Derived.Test.YtkcjbjkccafekaaCbL
import Derived.Test.YtkcjbjkccafekaaL01b
import Derived.Deep.Cut
import Derived.Deep.CutRange
import Derived.Laws.StructEq
import Derived.Test.YtkcjbjkccafekaaRows
import Derived.ChangeOld
namespace Go.Proofs.Ytkcjbjkccafekaa
open Go.ChangeMaps (open_string shut_string)
open Go.ChangeShapes Go.WideShapes Go.ChangeAt Go.RowKit
set_option linter.unusedVariables false
set_option linter.unusedSimpArgs false
set_option maxRecDepth 4000

theorem code_of_ints {w : World} {x : Addr} {len : Nat} {zs : List Int} (hl : len ≤ zs.length) (_hz : True) (hcell : ∀ i, i < zs.length → w.cell? (x.add i) = some (.int .u8 (zs.getD i 0))) (hwz : ∀ n ∈ zs, (Lit.int .u8 n).wf = true) : CodeIn w.heap.size w (some x) len := by
  intro i hi
  obtain ⟨b, o, spot⟩ := x
  have hc := hcell i (by omega)
  have hspot : spot = none := by
    have hc0 := hcell 0 (by omega)
    simpa [Addr.add] using World.cell?_spot hc0
  subst hspot
  rw [show (⟨b, o, none⟩ : Addr).add i = ⟨b, o + i, none⟩ from by unfold Addr.add; split <;> simp_all] at hc
  have hm : zs.getD i 0 ∈ zs := by
    have : i < zs.length := by omega
    simp [List.getD, this]
  have hw := hwz _ hm
  have hr : 0 ≤ zs.getD i 0 ∧ zs.getD i 0 ≤ 255 := by simpa [Lit.wf, IntKind.min, IntKind.max, IntKind.signed, IntKind.bits] using hw
  exact ⟨b, o, zs.getD i 0, rfl, World.block_lt_of_cell? w _ hc, hc, hr.1, hr.2⟩
theorem bigR_any (a : Option Addr) (len cap : Nat) (w : World) :
    Calls Try.prog 12 #[.slice a len cap] w fun e w' => e = .returned (.bool (decide (4096 < (len : Int)))) ∧ w = w' := by
  go_enter Try.func12, Try.ntmps12
  go_wp2
  go_ret
  exact ⟨rfl, rfl⟩
theorem field_cube1 (u0 u1 : Value) (w : World) : (Instr.field 27 (.agg #[u0, u1]) 1).run Try.prog w = .ok u1 w := by kernel_rfl
set_option maxRecDepth 8000 in
set_option maxHeartbeats 4000000 in
theorem fnCubeActions_walk (a : Option Addr) (len cap : Nat) (w : World) (hcode : CodeIn w.heap.size w a len) :
    Calls Try.prog 3 #[.slice a len cap] w fun e w' => e = .returned (.bool true) ∧ Below w.heap.size w w' := by
  by_cases hbig : 4096 < len
  · have f0 : decide (4096 < (len : Int)) = true := by simp; omega
    go_enter Try.func3, Try.ntmps3
    go_wp2_with fail
    refine (bigR_any _ _ _ _).mono ?_
    rintro e w1 ⟨rfl, rfl⟩
    go_wp2
    go_ret
    exact ⟨rfl, Below.refl _ _⟩
  · have f0 : decide (4096 < (len : Int)) = false := by simp; omega
    go_enter Try.func3, Try.ntmps3
    go_wp2_with fail
    refine (bigR_any _ _ _ _).mono ?_
    rintro e w0 ⟨rfl, rfl⟩
    go_wp2_with fail
    refine (drawCubeActions_any w.heap.size a len cap w (Nat.le_refl _) (by omega) hcode).mono ?_
    rintro e w1 ⟨m, x, y, v, o, rfl, hb⟩
    clear hbig f0 hcode
    obtain ⟨BR, BC, hq0, hz⟩ := two_new w1 #[.int .i64 m, .bool x, .bool y] #[.int .i64 v, .int .i64 o] 25 27
    replace hb := chain hb hq0
    clear hz hq0
    have hca := fun W => cubeActions_any m v o x y W
    have hsc := fun W => specCubeActions_any m v o x y W
    have haa := fun a W => afterAction_any m v o a x y W
    have hcd := fun W => canDouble_any m v o x y W
    have hic := fun v' W => isCube_any m v' 2 x y W
    have hsw := fun v' W => swapCube_any v' 2 W
    rw [show swO 2 = 1 by decide] at hsw
    have hfl := fun (u0 u1 : Value) (W : World) => field_cube1 u0 u1 W
    have hin := fun k => @caL_in m x v o k
    have hl5 := caL_length m x v o
    have hlen := @caL_len m x v o
    rw [hlen] at hcd
    obtain ⟨c5, h5, hc5⟩ := @aa_five m x v o
    obtain ⟨zs, hzs⟩ : ∃ z, caL m x v o = z := ⟨_, rfl⟩
    rw [hzs] at hca hsc hin hl5 hcd
    have haa5 := haa 5
    rw [h5] at haa5
    dsimp only at haa5
    have HCA := Lib.hid hca
    have HSC := Lib.hid hsc
    have HAAq := Lib.hid haa
    have HAA5 := Lib.hid haa5
    have HCD := Lib.hid hcd
    have HIC := Lib.hid hic
    have HSW := Lib.hid hsw
    have HIN := Lib.hid hin
    clear hca hsc haa haa5 hcd hic hsw hin hzs h5 hlen
    obtain ⟨x0, x1, x2, xf, xl⟩ := BR.t3
    obtain ⟨u0, u1, uf, ul⟩ := BC.two
    go_wp2_with fail
    clear x0 x1 x2 xf xl u0 u1 uf ul
    generalize ((w1.alloc (.cells #[.int .i64 m, .bool x, .bool y] 25)).alloc (.cells #[.int .i64 v, .int .i64 o] 27)) = v0 at *
    refine (HCA.out _).mono ?_
    rintro e w2 ⟨aL, kL, rfl, hO, hq⟩
    replace BR := BR.below hq
    replace BC := BC.below hq
    replace hb := chain hb hq
    have hlo := hq.size
    clear hq HCA
    obtain ⟨x0, x1, x2, xf, xl⟩ := BR.t3
    obtain ⟨u0, u1, uf, ul⟩ := BC.two
    go_wp2_with fail
    clear x0 x1 x2 xf xl u0 u1 uf ul
    refine (HSC.out _).mono ?_
    rintro e w3 ⟨aM, kM, rfl, hP, hq⟩
    replace BR := BR.below hq
    replace BC := BC.below hq
    replace hO := hO.below hq
    replace hb := chain hb hq
    clear hq HSC
    go_wp2_with fail
    refine (likeInts_same _ _ _ _ _ zs _ rfl (by omega) hO.irow hP.irow).mono ?_
    rintro e w4 ⟨rfl, hq⟩
    replace BR := BR.below hq
    replace BC := BC.below hq
    replace hO := hO.below hq
    replace hb := chain hb hq
    clear hq hP
    go_wp2_with fail
    go_loopg [6] zs.length (fun mm i wr => ∃ k : Nat, k ≤ zs.length ∧ mm = zs.length - k ∧ i = .int .i64 k ∧ Blk wr w1.heap.size #[.int .i64 m, .bool x, .bool y] 25 ∧ Blk wr (w1.heap.size + 1) #[.int .i64 v, .int .i64 o] 27 ∧ OSl v0.heap.size w2.heap.size wr aL zs ∧ Below w.heap.size w wr)
    case atStart => exact ⟨0, by omega, by omega, rfl, BR, BC, hO, hb⟩
    case round =>
      clear BR BC hO hb
      obtain ⟨k, hk, hmm, rfl, BR, BC, hO, hb⟩ := hrel
      by_cases hlt : k < zs.length
      · have hlt' : (k : Int) < (zs.length : Int) := by omega
        have hk0 : (0 : Int) ≤ (k : Int) := by omega
        obtain ⟨g, hp⟩ := HIN.out k hlt
        rcases hO with ⟨_, e0⟩ | ⟨gL, rfl, l1, l2, hrow⟩
        · rw [e0] at hlt
          simp at hlt
        · obtain ⟨bq, oq, eq, hc⟩ := hrow.irow k hlt
          simp only [Option.some.injEq, Addr.mk.injEq, and_true] at eq
          obtain ⟨rfl, rfl⟩ := eq
          obtain ⟨a, ha⟩ : ∃ a, zs.getD k 0 = a := ⟨_, rfl⟩
          rw [ha] at hp hc
          rw [Nat.zero_add] at hc
          obtain ⟨cur, BL, c1, c2⟩ := hrow
          have hcur : cur[k]? = some (.int .i64 a) := (BL.cell k).symm.trans hc
          have hval := aaV_ok g hp
          have hcb := fun h0 h2 => cb_after (a := a) g hp h0 h2
          have haa := HAAq.out a
          rw [hval] at haa
          dsimp only at haa
          have hr0 : a = 0 → aaR v o a = (v, o, 0) := fun h => by simp [aaR, h]
          have hr2 : a = 2 → aaR v o a = (0, 0, v) := fun h => by simp [aaR, h]
          obtain ⟨⟨r1, r2, r3⟩, hr⟩ : ∃ r, aaR v o a = r := ⟨_, rfl⟩
          rw [hr] at haa hcb hr0 hr2
          dsimp only at haa
          have HAA := Lib.hid (fun (_ : Unit) W => haa W)
          have HCB := Lib.hid hcb
          have HR0 := Lib.hid hr0
          have HR2 := Lib.hid hr2
          have HC12 := Lib.hid (And.intro c1 c2)
          clear haa hcb hr0 hr2 hr hval hp g ha hc c1 c2
          obtain ⟨x0, x1, x2, xf, xl⟩ := BR.t3
          obtain ⟨u0, u1, uf, ul⟩ := BC.two
          have lc := (BL.cell k).trans hcur
          go_upto_region 10 with (fail)
          clear x0 x1 x2 xf xl u0 u1 uf ul lc
          go_cut [7, 8, 9] from 29 to 95 (fun q7 q8 q9 wr => ∃ g, q7 = .pointer (some ⟨g, 0, none⟩) ∧ q8 = .int .i64 r3 ∧ q9 = .int .i64 0 ∧ Blk wr g #[.int .i64 r1, .int .i64 r2] 27 ∧ Blk wr w1.heap.size #[.int .i64 m, .bool x, .bool y] 25 ∧ Blk wr (w1.heap.size + 1) #[.int .i64 v, .int .i64 o] 27 ∧ Blk wr gL cur 2 ∧ Below w.heap.size w wr)
          case first =>
            refine wp_region_held_drew (S := fun w' => w'.cell? ⟨w1.heap.size, 0, none⟩ = some (.int .i64 m) ∧ w'.cell? ⟨w1.heap.size, 1, none⟩ = some (.bool x) ∧ w'.cell? ⟨w1.heap.size, 2, none⟩ = some (.bool y) ∧ w'.cell? ⟨(w1.heap.size + 1), 0, none⟩ = some (.int .i64 v) ∧ w'.cell? ⟨(w1.heap.size + 1), 1, none⟩ = some (.int .i64 o) ∧ w'.cell? ⟨gL, k, none⟩ = some (.int .i64 a)) (by kernel_rfl) ⟨BR.drew.t3.1, BR.drew.t3.2.1, BR.drew.t3.2.2.1, BC.drew.two.1, BC.drew.two.2.1, (BL.drew.cell k).trans hcur⟩ (fun hHeld => ?_)
            clear hHeld
            replace BR := BR.drew
            replace BC := BC.drew
            replace BL := BL.drew
            replace hb := hb.drew
            generalize wr.drew = vd at *
            have hHeld : vd.cell? ⟨w1.heap.size, 0, none⟩ = some (.int .i64 m) ∧ vd.cell? ⟨w1.heap.size, 1, none⟩ = some (.bool x) ∧ vd.cell? ⟨w1.heap.size, 2, none⟩ = some (.bool y) ∧ vd.cell? ⟨(w1.heap.size + 1), 0, none⟩ = some (.int .i64 v) ∧ vd.cell? ⟨(w1.heap.size + 1), 1, none⟩ = some (.int .i64 o) ∧ vd.cell? ⟨gL, k, none⟩ = some (.int .i64 a) := ⟨BR.t3.1, BR.t3.2.1, BR.t3.2.2.1, BC.two.1, BC.two.2.1, (BL.cell k).trans hcur⟩
            refine tk 0 36 ?_
            refine tk 1 37 ?_
            refine tk 2 38 ?_
            refine tk 3 39 ?_
            refine tk 4 40 ?_
            refine tk 5 41 ?_
            refine wpAnyH_ready (rs := [6, 11]) (by kernel_rfl) (by simp) ?_
            refine AllReadyH.cons (o := { dst := some 42, op := _, type := _, pos := _, after := _, guard := _ }) rfl (fun K hK => ?_) (AllReadyH.cons (o := { dst := some 7, op := _, type := _, pos := _, after := _, guard := _ }) rfl (fun K hK => ?_) AllReadyH.nil)
            · go_simp
              refine (HAA.out () _).mono ?_
              rintro e w6 ⟨rfl, hb6⟩
              replace BR := BR.below hb6
              replace BC := BC.below hb6
              replace BL := BL.below hb6
              replace hb := chain hb hb6
              clear hb6
              (try go_wp2_with fail)
              refine hko hK ⟨BR.t3.1, BR.t3.2.1, BR.t3.2.2.1, (Blk.f2 BC ((BL.cell k).trans hcur))⟩ fun hHeld => ?_
              clear hK K
              refine tk 7 35 ?_
              refine tk 8 43 ?_
              refine tk 9 44 ?_
              refine tk 10 45 ?_
              refine rdk 11 7 fun K hK => ?_
              go_simp
              (try go_wp2_with fail)
              refine hko hK ⟨(BR.alloc (.cells #[.int .i64 0, .int .i64 0] 27)).t3.1, (BR.alloc (.cells #[.int .i64 0, .int .i64 0] 27)).t3.2.1, (BR.alloc (.cells #[.int .i64 0, .int .i64 0] 27)).t3.2.2.1, (Blk.f2 (BC.alloc (.cells #[.int .i64 0, .int .i64 0] 27)) (((BL.alloc (.cells #[.int .i64 0, .int .i64 0] 27)).cell k).trans hcur))⟩ fun hHeld => ?_
              clear hK K
              have B8 := Blk.new w6 #[.int .i64 0, .int .i64 0] 27
              have h8 : w.heap.size ≤ w6.heap.size := hb.size
              have l_BR := BR.lt
              have l_BC := BC.lt
              have l_BL := BL.lt
              replace BR := BR.alloc (.cells #[.int .i64 0, .int .i64 0] 27)
              replace BC := BC.alloc (.cells #[.int .i64 0, .int .i64 0] 27)
              replace BL := BL.alloc (.cells #[.int .i64 0, .int .i64 0] 27)
              replace hb := chain_alloc hb (.cells #[.int .i64 0, .int .i64 0] 27)
              generalize w6.alloc (.cells #[.int .i64 0, .int .i64 0] 27) = wA at *
              generalize w6.heap.size = g8 at *
              refine rdn 12 fun K hK => ?_
              clear hHeld
              obtain ⟨z0, z1, zf, zl⟩ := B8.two
              have SBR := BR.off2 (B := g8) (by omega) (.int .i64 r1) (.int .i64 r2)
              have SBC := BC.off2 (B := g8) (by omega) (.int .i64 r1) (.int .i64 r2)
              have SBL := BL.off2 (B := g8) (by omega) (.int .i64 r1) (.int .i64 r2)
              have Shb := belowOff2 hb (B := g8) (by omega) (.int .i64 r1) (.int .i64 r2)
              have SB8 := B8.sto2 (.int .i64 r1) (.int .i64 r2)
              go_simp
              (try go_wp2_with fail)
              refine hko hK ⟨SBR.t3.1, SBR.t3.2.1, SBR.t3.2.2.1, (Blk.f2 SBC ((SBL.cell k).trans hcur))⟩ fun hHeld => ?_
              clear hK K
              clear z0 z1 zf zl hb B8 BR BC BL
              generalize ((wA.setCell ⟨g8, 0, none⟩ (.int .i64 r1)).setCell ⟨g8, 1, none⟩ (.int .i64 r2)) = wS at *
              have BR := SBR
              have BC := SBC
              have BL := SBL
              have hb := Shb
              have B8 := SB8
              clear SBR SBC SBL Shb SB8
              refine tk 13 8 ?_
              refine tk 14 9 ?_
              refine wpAnyH_done (by kernel_rfl) ?_ _
              clear hHeld
              (try go_wp2_with fail)
              go_meet
              case rel => exact ⟨g8, rfl, rfl, rfl, B8, BR, BC, BL, hb⟩
            · go_simp
              (try go_wp2_with fail)
              refine hko hK ⟨(BR.alloc (.cells #[.int .i64 0, .int .i64 0] 27)).t3.1, (BR.alloc (.cells #[.int .i64 0, .int .i64 0] 27)).t3.2.1, (BR.alloc (.cells #[.int .i64 0, .int .i64 0] 27)).t3.2.2.1, (Blk.f2 (BC.alloc (.cells #[.int .i64 0, .int .i64 0] 27)) (((BL.alloc (.cells #[.int .i64 0, .int .i64 0] 27)).cell k).trans hcur))⟩ fun hHeld => ?_
              clear hK K
              have B8 := Blk.new vd #[.int .i64 0, .int .i64 0] 27
              have h8 : w.heap.size ≤ vd.heap.size := hb.size
              have l_BR := BR.lt
              have l_BC := BC.lt
              have l_BL := BL.lt
              replace BR := BR.alloc (.cells #[.int .i64 0, .int .i64 0] 27)
              replace BC := BC.alloc (.cells #[.int .i64 0, .int .i64 0] 27)
              replace BL := BL.alloc (.cells #[.int .i64 0, .int .i64 0] 27)
              replace hb := chain_alloc hb (.cells #[.int .i64 0, .int .i64 0] 27)
              generalize vd.alloc (.cells #[.int .i64 0, .int .i64 0] 27) = wA at *
              generalize vd.heap.size = g8 at *
              refine rdk 6 42 fun K hK => ?_
              go_simp
              refine (HAA.out () _).mono ?_
              rintro e w6 ⟨rfl, hb6⟩
              replace BR := BR.below hb6
              replace BC := BC.below hb6
              replace BL := BL.below hb6
              replace B8 := B8.below hb6
              replace hb := chain hb hb6
              clear hb6
              (try go_wp2_with fail)
              refine hko hK ⟨BR.t3.1, BR.t3.2.1, BR.t3.2.2.1, (Blk.f2 BC ((BL.cell k).trans hcur))⟩ fun hHeld => ?_
              clear hK K
              refine tk 7 35 ?_
              refine tk 8 43 ?_
              refine tk 9 44 ?_
              refine tk 10 45 ?_
              refine rdn 12 fun K hK => ?_
              clear hHeld
              obtain ⟨z0, z1, zf, zl⟩ := B8.two
              have SBR := BR.off2 (B := g8) (by omega) (.int .i64 r1) (.int .i64 r2)
              have SBC := BC.off2 (B := g8) (by omega) (.int .i64 r1) (.int .i64 r2)
              have SBL := BL.off2 (B := g8) (by omega) (.int .i64 r1) (.int .i64 r2)
              have Shb := belowOff2 hb (B := g8) (by omega) (.int .i64 r1) (.int .i64 r2)
              have SB8 := B8.sto2 (.int .i64 r1) (.int .i64 r2)
              go_simp
              (try go_wp2_with fail)
              refine hko hK ⟨SBR.t3.1, SBR.t3.2.1, SBR.t3.2.2.1, (Blk.f2 SBC ((SBL.cell k).trans hcur))⟩ fun hHeld => ?_
              clear hK K
              clear z0 z1 zf zl hb B8 BR BC BL
              generalize ((w6.setCell ⟨g8, 0, none⟩ (.int .i64 r1)).setCell ⟨g8, 1, none⟩ (.int .i64 r2)) = wS at *
              have BR := SBR
              have BC := SBC
              have BL := SBL
              have hb := Shb
              have B8 := SB8
              clear SBR SBC SBL Shb SB8
              refine tk 13 8 ?_
              refine tk 14 9 ?_
              refine wpAnyH_done (by kernel_rfl) ?_ _
              clear hHeld
              (try go_wp2_with fail)
              go_meet
              case rel => exact ⟨g8, rfl, rfl, rfl, B8, BR, BC, BL, hb⟩
          case rest =>
            clear BR BC BL hb
            obtain ⟨g7, rfl, rfl, rfl, B7, BR, BC, BL, hb⟩ := hcut
            obtain ⟨x0, x1, x2, xf, xl⟩ := BR.t3
            obtain ⟨u0, u1, uf, ul⟩ := BC.two
            obtain ⟨s0, s1, sf, sl⟩ := B7.two
            have lc := (BL.cell k).trans hcur
            have hO : OSl v0.heap.size w2.heap.size wc (some ⟨gL, 0, none⟩) zs := .inr ⟨gL, rfl, l1, l2, cur, BL, HC12.out.1, HC12.out.2⟩
            by_cases a2 : a = 2
            · have q := HR2.out a2
              simp only [Prod.mk.injEq] at q
              obtain ⟨rfl, rfl, rfl⟩ := q
              have fa : (a == 2) = true := by rw [beq_iff_eq]; exact a2
              clear HCB HR0 HR2 HAA HC12 a2
              go_wp2
              go_roundg (zs.length - (k + 1))
              case measure => omega
              case rel => exact ⟨k + 1, by omega, rfl, by go_num, BR, BC, hO, hb⟩
            · have fa : (a == 2) = false := by rw [beq_eq_false_iff_ne]; exact a2
              by_cases a0 : a = 0
              · have q := HR0.out a0
                simp only [Prod.mk.injEq] at q
                obtain ⟨rfl, rfl, rfl⟩ := q
                have fb : (a == 0) = true := by rw [beq_iff_eq]; exact a0
                clear HCB HR0 HR2 HAA HC12 a2 a0
                go_wp2
                go_roundg (zs.length - (k + 1))
                case measure => omega
                case rel => exact ⟨k + 1, by omega, rfl, by go_num, BR, BC, hO, hb⟩
              · have fb : (a == 0) = false := by rw [beq_eq_false_iff_ne]; exact a0
                obtain ⟨q0, q⟩ := HCB.out a0 a2
                simp only [Prod.mk.injEq] at q
                obtain ⟨e1, rfl, rfl⟩ := q
                rw [← e1] at q0
                have hic := HIC.out r1
                rw [q0] at hic
                have HI1 := Lib.hid hic
                have HS1 := Lib.hid (HSW.out r1)
                clear HCB HR0 HR2 HAA HC12 a2 a0 e1 q0 hic
                go_wp2_with (first | (go_at_call 18; refine (HI1.out _).mono ?_; rintro e w7 ⟨rfl, hq7⟩; obtain ⟨s0b, s1b, sfb, slb⟩ := (B7.below hq7).two) | (go_at_call 19; refine (HS1.out _).mono ?_; rintro e w8 ⟨rfl, hq8⟩))
                go_roundg (zs.length - (k + 1))
                case measure => omega
                case rel => exact ⟨k + 1, by omega, rfl, by go_num, (BR.below hq7).below hq8, (BC.below hq7).below hq8, (hO.below hq7).below hq8, chain (chain hb hq7) hq8⟩
      · obtain rfl : k = zs.length := by omega
        obtain ⟨x0, x1, x2, xf, xl⟩ := BR.t3
        obtain ⟨u0, u1, uf, ul⟩ := BC.two
        have HLN := Lib.hid (show (1 < zs.length) = (1 < zs.length) from rfl)
        go_wp2_with fail
        clear x0 x1 x2 xf xl u0 u1 uf ul
        refine (HAA5.out _).mono ?_
        rintro e w5 ⟨rfl, hq⟩
        replace BR := (BR.below hq).alloc (.cells #[.int .i64 0, .int .i64 0] 27)
        replace BC := (BC.below hq).alloc (.cells #[.int .i64 0, .int .i64 0] 27)
        replace hb := chain_alloc (chain hb hq) (.cells #[.int .i64 0, .int .i64 0] 27)
        clear hq
        obtain ⟨x0, x1, x2, xf, xl⟩ := BR.t3
        obtain ⟨u0, u1, uf, ul⟩ := BC.two
        go_wp2_with fail
        clear x0 x1 x2 xf xl u0 u1 uf ul
        generalize (w5.alloc (.cells #[.int .i64 0, .int .i64 0] 27)) = w6 at *
        refine (HCD.out _).mono ?_
        rintro e w7 ⟨rfl, hq⟩
        by_cases h1 : 1 < zs.length
        · have f1 : (1 : Int) < (zs.length : Int) := by omega
          rw [decide_eq_true h1]
          rcases hc5 with rfl | rfl
          all_goals
            go_wp2
            go_ret
            exact ⟨by first | (simp; done) | (simp; omega), chain hb hq⟩
        · have f1 : ¬ (1 : Int) < (zs.length : Int) := by omega
          rw [decide_eq_false h1]
          rcases hc5 with rfl | rfl
          all_goals
            go_wp2
            go_ret
            exact ⟨by first | (simp; done) | (simp; omega), chain hb hq⟩
set_option maxRecDepth 100000 in
theorem fnCubeActions_lifted (os : Os) (started : os.Started) (H : Type) (enc : TypeId × Value → H) :
    ReturnsInHanded {} Try.checked os 3 .any (Rows.fnCubeActionsSpec.pre6 enc Try.prog Try.f3 Rows.fnCubeActionsRow.domain false) (Rows.fnCubeActionsSpec.post enc Try.prog Try.f3 false true false false) := by
  refine returnsInHanded_of_change (C := Try.checked) own started (by kernel_rfl) Try.func3
    (ChangeSpec.witness6 (enc := enc) (C := Try.checked) false ⟨#[], #[.slice none 0 0], []⟩ 8 (by kernel_rfl) (by kernel_rfl) (by kernel_rfl) (by kernel_rfl)) ?_
  intro W base args ds gs before hval0 hW hcnd _
  have hval : ∀ (j : Nat) t v, Try.f3.params[j]? = some t → args[j]? = some v → Value.okWide Try.prog W .any base t v := hval0
  have hW' := hW
  obtain ⟨p, q, hA0, hV, rfl, hfz, hnd⟩ := hW
  have hA : DataW.TrodAll enc Try.prog W 0 (fun _ => true) true Try.f3.params.toList args.toList ds p := hA0
  rw [Try.params3] at hA hval
  obtain ⟨v0, vs0, d0, ds0, p0, q0, hargs, rfl, rfl, h0, r0⟩ := trodAll_cons hA
  obtain ⟨rfl, rfl, rfl⟩ := trodAll_nil r0
  obtain rfl : args = #[v0] := by cases args; simp_all
  obtain ⟨rfl, rfl⟩ := trodVars_none hV
  have k0 := h0
  have lt0 : ∀ x ∈ p0, x.block < W.heap.size := by obtain ⟨m, hm⟩ := k0; exact DataW.trod_lt m _ _ _ hm
  obtain ⟨sa_0, sl_0, sc_0, rfl⟩ := okWide_slice Try.underlying22 (hval 0 22 v0 rfl rfl)
  have hcode_0 : CodeIn W.heap.size W sa_0 sl_0 := by
    obtain ⟨fuel, hf⟩ := h0
    rcases open_ints Try.underlying22 Try.underlying5 (by kernel_rfl) hf with ⟨hcs, _⟩ | ⟨x, l, c, zs, hcs, _, hl, hm, hz, _, hcell, hwz⟩
    · simp [Value.cells] at hcs
      obtain ⟨rfl, rfl, rfl⟩ := hcs
      intro i hi
      omega
    · simp [Value.cells] at hcs
      obtain ⟨rfl, rfl, rfl⟩ := hcs
      exact code_of_ints (by have hz2 := hz; simp at hz2; omega) trivial hcell hwz
  clear hA0 hval0
  refine (fnCubeActions_walk sa_0 sl_0 sc_0 W hcode_0).mono fun e W' ⟨he, bel⟩ => ?_
  subst he
  exact ⟨_, rfl, _, _, _, [], _, [], hW', trodAll_mk1 (shut_bool Try.underlying4 _), (trodAll_cons_mk (Below.trod laidOut (by kernel_rfl) (of_decide_eq_true (by kernel_rfl)) k0 bel lt0) trodAll_mk0), rfl, bel.frame _, fun h => by cases h⟩
theorem fnCubeActions_holds : Rows.FnCubeActionsSaid :=
  OpenClaim.holds_of_wide 3 Try.f3 rfl rfl rfl rfl rfl rfl rfl ⟨rfl, rfl, rfl, rfl, rfl⟩ rfl rfl rfl rfl rfl (by kernel_rfl) Try.func3 (by kernel_rfl)
    (of_decide_eq_true (by kernel_rfl)) (by unfold Func.isWrapper; first | (rw [if_pos (by decide +kernel)]; kernel_rfl) | (rw [if_neg (by decide +kernel)]; exact ⟨rfl, rfl⟩))
    (fun os started H enc _ => fnCubeActions_lifted os started H enc)
end Go.Proofs.Ytkcjbjkccafekaa
