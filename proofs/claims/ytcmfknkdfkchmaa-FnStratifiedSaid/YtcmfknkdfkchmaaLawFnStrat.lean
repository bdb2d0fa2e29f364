/- The law of chapter 7 on stratified rolls holds: for every code the law returns true and the code reads behind the call as it read before. No conditions. -/
import Derived.Test.Ytcmfknkdfkchmaa07j
import Derived.Test.YtcmfknkdfkchmaaDraw07
import Derived.Test.YtcmfknkdfkchmaaRows
import Derived.ChangeOld
namespace Go.Proofs.Ytcmfknkdfkchmaa
open Go.ChangeMaps (open_string shut_string)
open Go.ChangeShapes Go.WideShapes Go.ChangeAt Go.RowKit
set_option linter.unusedVariables false
set_option linter.unusedSimpArgs false

theorem code_of_ints {w : World} {x : Addr} {len : Nat} {zs : List Int} (hl : len ≤ zs.length) (_hz : True) (hcell : ∀ i, i < zs.length → w.cell? (x.add i) = some (.int .u8 (zs.getD i 0))) (hwz : ∀ n ∈ zs, (Lit.int .u8 n).wf = true) : CodeIn w.heap.size w (some x) len := by
  intro i hi
  obtain ⟨b, o, spot⟩ := x
  have hc := hcell i (by omega)
  have hspot : spot = none := by
    have hc0 := hcell 0 (by omega)
    simpa [Addr.add] using World.cell?_spot hc0
  subst hspot
  rw [show (⟨b, o, none⟩ : Addr).add i = ⟨b, o + i, none⟩ from by unfold Addr.add; split <;> simp_all] at hc
  have hm : zs.getD i 0 ∈ zs := by
    have : i < zs.length := by omega
    simp [List.getD, this]
  have hw := hwz _ hm
  have hr : 0 ≤ zs.getD i 0 ∧ zs.getD i 0 ≤ 255 := by simpa [Lit.wf, IntKind.min, IntKind.max, IntKind.signed, IntKind.bits] using hw
  exact ⟨b, o, zs.getD i 0, rfl, World.block_lt_of_cell? w _ hc, hc, hr.1, hr.2⟩
theorem bigR_any (a : Option Addr) (len cap : Nat) (w : World) :
    Calls Try.prog 15 #[.slice a len cap] w fun e w' => e = .returned (.bool (decide (4096 < (len : Int)))) ∧ w = w' := by
  go_enter Try.func15, Try.ntmps15
  go_wp2
  go_ret
  exact ⟨rfl, rfl⟩
/-- How often a roll stands among the first of a list. -/
def cntTo (r : Rl) (l : List Rl) (k : Nat) : Int := ((l.take k).count r : Int)
theorem cntTo_succ (r : Rl) (l : List Rl) (k : Nat) (u : Rl) (h : l[k]? = some u) : cntTo r l (k + 1) = cntTo r l k + (if u = r then 1 else 0) := by
  unfold cntTo
  obtain ⟨hk, rfl⟩ := List.getElem?_eq_some_iff.1 h
  rw [List.take_succ_eq_append_getElem hk, List.count_append, List.count_singleton]
  by_cases e : l[k] = r
  · rw [if_pos e, if_pos (by simpa using e)]
    simp
  · rw [if_neg e, if_neg (by simpa using e)]
    simp
theorem cntTo_bound (r : Rl) (l : List Rl) (k : Nat) : 0 ≤ cntTo r l k ∧ cntTo r l k ≤ (k : Int) := by
  unfold cntTo
  have h1 := List.count_le_length (a := r) (l := l.take k)
  have h2 : (l.take k).length ≤ k := by rw [List.length_take]; omega
  omega
set_option maxRecDepth 8000 in
set_option maxHeartbeats 4000000 in
theorem fnStratified_walk (a : Option Addr) (len cap : Nat) (w : World) (hcode : CodeIn w.heap.size w a len) :
    Calls Try.prog 5 #[.slice a len cap] w fun e w' => e = .returned (.bool true) ∧ Below w.heap.size w w' := by
  by_cases hbig : 4096 < len
  · have f0 : decide (4096 < (len : Int)) = true := by simp; omega
    go_enter Try.func5, Try.ntmps5
    go_wp2_with fail
    refine (bigR_any _ _ _ _).mono ?_
    rintro e w1 ⟨rfl, rfl⟩
    go_wp2
    go_ret
    exact ⟨rfl, Below.refl _ _⟩
  · have f0 : decide (4096 < (len : Int)) = false := by simp; omega
    go_enter Try.func5, Try.ntmps5
    go_wp2_with fail
    refine (bigR_any _ _ _ _).mono ?_
    rintro e w0 ⟨rfl, rfl⟩
    go_wp2_with fail
    refine (drawStr_any w.heap.size a len cap w (Nat.le_refl _) (by omega) hcode).mono ?_
    rintro e w1 ⟨p, c, h, s, x, n, rfl, hb⟩
    clear hbig f0 hcode
    have BV := Blk.new w1 #[.int .i64 p, .int .i64 c, .int .i64 h, .int .i64 s] 25
    replace hb := chain_alloc hb (.cells #[.int .i64 p, .int .i64 c, .int .i64 h, .int .i64 s] 25)
    have him := fun W => stratRolls_any p c h s x n W
    have hsp := fun W => specStratRolls_any p c h s x n W
    obtain ⟨x0, x1, x2, x3, xf, xl⟩ := BV.four
    by_cases g : rcI p c h s x n = 0
    rotate_left
    · obtain ⟨q, hq⟩ : ∃ q, rcI p c h s x n = q := ⟨_, rfl⟩
      rw [hq] at him hsp g
      have hL : ssL p c h s x n = [] := by
        unfold ssL
        rw [hq, if_neg g]
      rw [hL] at him hsp
      have f1 : (q != 0) = true := by rw [bne_iff_ne]; exact g
      have HIM := Lib.hid him
      have HSP := Lib.hid hsp
      clear him hsp hq hL g
      go_wp2_with fail
      clear x0 x1 x2 x3 xf xl
      generalize (w1.alloc (.cells #[.int .i64 p, .int .i64 c, .int .i64 h, .int .i64 s] 25)) = v0 at *
      refine (HIM.out _).mono ?_
      rintro e w2 ⟨aL, kL, rfl, hO, hb2⟩
      replace BV := BV.below hb2
      replace hb := chain hb hb2
      clear hb2
      obtain ⟨x0, x1, x2, x3, xf, xl⟩ := BV.four
      go_wp2_with fail
      clear x0 x1 x2 x3 xf xl
      refine (HSP.out _).mono ?_
      rintro e w3 ⟨aM, kM, rfl, hM, hb3⟩
      go_wp2
      go_ret
      exact ⟨rfl, chain hb hb3⟩
    · obtain ⟨gv, gs, n0, n4⟩ := rcI_zero g
      have hss := vB_sides gv
      have hx := (sdB_iff x).1 gs
      have hL : ssL p c h s x n = strN s.toNat x n.toNat := by unfold ssL; rw [if_pos g]
      rw [g, hL] at him hsp
      obtain ⟨S, rfl⟩ := Int.eq_ofNat_of_zero_le (by omega : 0 ≤ s)
      obtain ⟨N, rfl⟩ := Int.eq_ofNat_of_zero_le n0
      rw [show ((N : Int)).toNat = N by simp, show ((S : Int)).toNat = S by simp] at him hsp
      have hN : N ≤ 400 := by omega
      have hS1 : 1 ≤ S := by omega
      have hS6 : S ≤ 6 := by omega
      have hM36 : S * S ≤ 6 * 6 := Nat.mul_le_mul hS6 hS6
      have hM1 : 1 ≤ S * S := Nat.mul_pos hS1 hS1
      have hlen := strN_length S x N hS1
      have hMI : ((S * S : Nat) : Int) = (S : Int) * (S : Int) := by rw [Int.natCast_mul]
      have hgr := fun W => stratRolls_any p c h (S : Int) x ((S * S : Nat) : Int) W
      have hrc : rcI p c h (S : Int) x ((S * S : Nat) : Int) = 0 := by
        unfold rcI
        rw [if_pos gv, if_pos gs, if_neg (by omega), if_neg (by omega)]
      have hsl : ssL p c h (S : Int) x ((S * S : Nat) : Int) = grpL S x := by
        unfold ssL
        rw [if_pos hrc, show ((S : Int)).toNat = S by simp, show (((S * S : Nat) : Int)).toNat = S * S from Int.toNat_natCast _]
        exact strN_group S x hS1
      rw [hrc, hsl] at hgr
      have har := fun W => allRolls_any p c h (S : Int) W
      have hal : arL p c h (S : Int) = rollsTo S := by unfold arL; rw [if_pos gv]; simp
      have hcnt := fun r hr => grp_count S hS6 x r hr
      have hgl := grpL_length S x
      have hpre := fun i (h1 : i < S * S) (h2 : i < N) => strN_at S x (S * S) N i hS1 h1 h2
      rw [strN_group S x hS1] at hpre
      rw [hal] at har
      have hrw := fun (r : Rl) (hr : r ∈ rollsTo S) W => specRollWeight_any p c h (S : Int) r.1 r.2 W
      have hrw : ∀ (r : Rl), r ∈ rollsTo S → ∀ W, Calls Try.prog 32 #[.agg #[.int .i64 p, .int .i64 c, .int .i64 h, .int .i64 (S : Int)], .agg #[.int .i64 r.1, .int .i64 r.2]] W fun e w' => e = .returned (.int .i64 ((grpL S x).count r : Int)) ∧ Below W.heap.size W w' := by
        intro r hr W
        have h1 := hrw r hr W
        have hm := rollsTo_mem S r hr
        rw [hcnt r hr]
        unfold wgR
        unfold rwI ruB at h1
        rw [gv, Bool.true_and, if_pos ((rlB_iff _ _ _).2 ⟨hm.1, hm.2.1, hm.2.2⟩)] at h1
        exact h1
      have hRl := rollsTo_len2 S
      have hR0 : 0 < (rollsTo S).length := by
        have : 1 ≤ S * (S + 1) := Nat.mul_pos hS1 (by omega)
        omega
      have hR36 : (rollsTo S).length ≤ 36 := by
        have := rollsTo_length S
        omega
      have hcb := fun r k => cntTo_bound r (grpL S x) k
      have hcs := fun r k u hu => cntTo_succ r (grpL S x) k u hu
      have hce : ∀ r, cntTo r (grpL S x) (grpL S x).length = ((grpL S x).count r : Int) := fun r => by unfold cntTo; rw [List.take_length]
      have hc0 : ∀ r, cntTo r (grpL S x) 0 = 0 := fun r => by simp [cntTo]
      obtain ⟨L, hLe⟩ : ∃ L, strN S x N = L := ⟨_, rfl⟩
      obtain ⟨GP, hGP⟩ : ∃ L, grpL S x = L := ⟨_, rfl⟩
      obtain ⟨RT, hRT⟩ : ∃ L, rollsTo S = L := ⟨_, rfl⟩
      obtain ⟨M, hMe⟩ : ∃ M, S * S = M := ⟨_, rfl⟩
      rw [hLe] at him hsp hlen hpre
      rw [hGP] at hgr hgl hpre hrw hcb hcs hce hc0
      rw [hRT] at har hrw hR0 hR36
      rw [hMe] at hgl hpre hM36 hM1 hMI hgr
      have wT : IntKind.i64.wrap ((S : Int) * (S : Int)) = (M : Int) := by rw [← hMI]; exact IntWalk.i64_in _ (by omega)
      have HIM := Lib.hid him
      have HSP := Lib.hid hsp
      have HGR := Lib.hid hgr
      have HAR := Lib.hid har
      have HRW := Lib.hid hrw
      have HPRE := Lib.hid hpre
      have HCB := Lib.hid hcb
      have HCS := Lib.hid hcs
      have HCE := Lib.hid hce
      have HC0 := Lib.hid hc0
      subst hlen hgl
      clear him hsp hgr har hrw hpre hcb hcs hce hc0 hcnt hRl hLe hGP hRT hMe hMI hal hsl hrc g gv gs hss hx n0 n4 hL
      go_wp2_with fail
      clear x0 x1 x2 x3 xf xl
      generalize (w1.alloc (.cells #[.int .i64 p, .int .i64 c, .int .i64 h, .int .i64 (S : Int)] 25)) = v0 at *
      refine (HIM.out _).mono ?_
      rintro e w2 ⟨aI, kI, rfl, hI, hb2⟩
      replace BV := BV.below hb2
      replace hb := chain hb hb2
      clear hb2
      obtain ⟨x0, x1, x2, x3, xf, xl⟩ := BV.four
      go_wp2_with fail
      clear x0 x1 x2 x3 xf xl
      refine (HSP.out _).mono ?_
      rintro e w3 ⟨aM, kM, rfl, hM_, hb3⟩
      replace BV := BV.below hb3
      replace hI := hI.below hb3
      replace hb := chain hb hb3
      clear hb3 hM_
      obtain ⟨x0, x1, x2, x3, xf, xl⟩ := BV.four
      go_wp2_with fail
      clear x0 x1 x2 x3 xf xl
      refine (HGR.out _).mono ?_
      rintro e w4 ⟨aG, kG, rfl, hG, hb4⟩
      replace BV := BV.below hb4
      replace hI := hI.below hb4
      replace hb := chain hb hb4
      clear hb4
      obtain ⟨x0, x1, x2, x3, xf, xl⟩ := BV.four
      go_wp2_with fail
      clear x0 x1 x2 x3 xf xl
      refine (HAR.out _).mono ?_
      rintro e w5 ⟨aR, kR, rfl, hR, hb5⟩
      replace BV := BV.below hb5
      replace hI := hI.below hb5
      replace hG := hG.below hb5
      replace hb := chain hb hb5
      clear hb5
      go_wp2_with fail
      go_loopg [13, 14, 15] RT.length (fun m q13 q14 q15 wr => ∃ i : Nat, i ≤ RT.length ∧ m = RT.length - i ∧ q13 = .int .i64 (i : Int) ∧ Below w.heap.size w wr ∧ Blk wr w1.heap.size #[.int .i64 p, .int .i64 c, .int .i64 h, .int .i64 (S : Int)] 25 ∧ ORl v0.heap.size w2.heap.size wr aI L ∧ ORl w3.heap.size w4.heap.size wr aG GP ∧ ORl w4.heap.size w5.heap.size wr aR RT)
      case atStart => exact ⟨0, by omega, by omega, rfl, hb, BV, hI, hG, hR⟩
      case round =>
        clear hb BV hI hG hR
        obtain ⟨i, hi, hm, rfl, hb, BV, hI, hG, hR⟩ := hrel
        by_cases hlt : i < RT.length
        · have hlt' : (i : Int) < (RT.length : Int) := by omega
          have hi0 : (0 : Int) ≤ (i : Int) := by omega
          obtain ⟨⟨ra, rb⟩, hr⟩ : ∃ r, RT[i]? = some r := ⟨_, List.getElem?_eq_getElem hlt⟩
          have hwt := HRW.out (ra, rb) (List.mem_of_getElem? hr)
          dsimp only at hwt
          have hce := HCE.out (ra, rb)
          have hcs := fun k u hu => HCS.out (ra, rb) k u hu
          have hcb := fun k => HCB.out (ra, rb) k
          have hc0 := HC0.out (ra, rb)
          obtain ⟨CN, hCN⟩ : ∃ z, (GP.count (ra, rb) : Int) = z := ⟨_, rfl⟩
          rw [hCN] at hwt hce
          obtain ⟨gR, rfl, RR⟩ := hR.row hlt
          have HWT := Lib.hid hwt
          have HCE1 := Lib.hid hce
          have HCS1 := Lib.hid hcs
          have HCB1 := Lib.hid hcb
          have HRI := Lib.hid hr
          clear hwt hce hcs hcb hCN RR hr
          go_wp2_with fail
          go_loopg [14, 15] GP.length (fun m q14 q15 wr => ∃ k : Nat, k ≤ GP.length ∧ m = GP.length - k ∧ q14 = .int .i64 (cntTo (ra, rb) GP k) ∧ q15 = .int .i64 (k : Int) ∧ Below w.heap.size w wr ∧ Blk wr w1.heap.size #[.int .i64 p, .int .i64 c, .int .i64 h, .int .i64 (S : Int)] 25 ∧ ORl v0.heap.size w2.heap.size wr aI L ∧ ORl w3.heap.size w4.heap.size wr aG GP ∧ ORl w4.heap.size w5.heap.size wr (some ⟨gR, 0, none⟩) RT)
          case atStart => exact ⟨0, by omega, by omega, by rw [hc0], rfl, hb, BV, hI, hG, hR⟩
          case round =>
            clear hb BV hI hG hR
            obtain ⟨k, hk, hm2, rfl, rfl, hb, BV, hI, hG, hR⟩ := hrel
            by_cases hltk : k < GP.length
            · have hltk' : (k : Int) < (GP.length : Int) := by omega
              have hk0 : (0 : Int) ≤ (k : Int) := by omega
              obtain ⟨⟨fa, fb⟩, hu⟩ : ∃ r, GP[k]? = some r := ⟨_, List.getElem?_eq_getElem hltk⟩
              have hsu := HCS1.out k (fa, fb) hu
              obtain ⟨b1, b2⟩ := HCB1.out k
              obtain ⟨C, hC⟩ : ∃ z, cntTo (ra, rb) GP k = z := ⟨_, rfl⟩
              rw [hC] at hsu b1 b2
              rw [hC]
              have b3 : C ≤ 36 := by omega
              obtain ⟨gG, rfl, RG⟩ := hG.row hltk
              obtain ⟨u0, u1⟩ := RG.two k _ hu
              obtain ⟨t0, t1⟩ := (hR.row hlt).elim fun g hg => (by
                obtain ⟨e, r⟩ := hg
                simp only [Option.some.injEq, Addr.mk.injEq, and_true] at e
                subst e
                exact r.two i _ HRI.out)
              dsimp only at u0 u1 t0 t1
              clear hC b2 RG hu
              by_cases e1 : fa = ra
              · by_cases e2 : fb = rb
                · subst e1 e2
                  rw [if_pos rfl] at hsu
                  have HSU := Lib.hid hsu
                  clear hsu
                  go_wp2_with fail
                  have hd_ : wr.drew.heap.size = wr.heap.size := rfl
                  replace BV := BV.drew
                  replace hI := hI.drew
                  replace hG := hG.drew
                  replace hR := hR.drew
                  replace hb := hb.drew
                  replace u0 := CellIs.drew u0
                  replace u1 := CellIs.drew u1
                  replace t0 := CellIs.drew t0
                  replace t1 := CellIs.drew t1
                  refine wp_region_held_drew (S := fun w' => w'.cell? ⟨gG, k * 2, none⟩ = some (.int .i64 fa) ∧ w'.cell? ⟨gG, k * 2 + 1, none⟩ = some (.int .i64 fb) ∧ w'.cell? ⟨gR, i * 2, none⟩ = some (.int .i64 fa) ∧ w'.cell? ⟨gR, i * 2 + 1, none⟩ = some (.int .i64 fb)) (by kernel_rfl) ⟨u0, u1, t0, t1⟩ (fun hHeld => ?_)
                  clear hHeld
                  generalize wr.drew = vd at *
                  have hHeld : vd.cell? ⟨gG, k * 2, none⟩ = some (.int .i64 fa) ∧ vd.cell? ⟨gG, k * 2 + 1, none⟩ = some (.int .i64 fb) ∧ vd.cell? ⟨gR, i * 2, none⟩ = some (.int .i64 fa) ∧ vd.cell? ⟨gR, i * 2 + 1, none⟩ = some (.int .i64 fb) := ⟨u0, u1, t0, t1⟩
                  refine wpAnyH_take (i := 0) (oi := { dst := some 76, op := _, type := _, pos := _, after := _, guard := _ }) (v := ?_) rfl (by kernel_rfl) (by kernel_rfl) (by kernel_rfl) (fun _ _ _ h => h) (Or.inl ⟨by rfl, ?_⟩) (by assumption) ?_
                  rotate_left
                  · intro w hSw
                    (try dsimp only at hSw)
                    go_simp
                    (try (with_reducible rfl))
                  try simp only [Act.put, List.setIfInBounds_toArray, List.set_cons_zero, List.set_cons_succ]
                  refine wpAnyH_take (i := 1) (oi := { dst := some 77, op := _, type := _, pos := _, after := _, guard := _ }) (v := ?_) rfl (by kernel_rfl) (by kernel_rfl) (by kernel_rfl) (fun _ _ _ h => h) (Or.inl ⟨by rfl, ?_⟩) (by assumption) ?_
                  rotate_left
                  · intro w hSw
                    (try dsimp only at hSw)
                    go_simp
                    (try (with_reducible rfl))
                  try simp only [Act.put, List.setIfInBounds_toArray, List.set_cons_zero, List.set_cons_succ]
                  refine wpAnyH_take (i := 2) (oi := { dst := some 78, op := _, type := _, pos := _, after := _, guard := _ }) (v := ?_) rfl (by kernel_rfl) (by kernel_rfl) (by kernel_rfl) (fun _ _ _ h => h) (Or.inl ⟨by rfl, ?_⟩) (by assumption) ?_
                  rotate_left
                  · intro w hSw
                    (try dsimp only at hSw)
                    go_simp
                    (try (with_reducible rfl))
                  try simp only [Act.put, List.setIfInBounds_toArray, List.set_cons_zero, List.set_cons_succ]
                  refine wpAnyH_take (i := 3) (oi := { dst := some 79, op := _, type := _, pos := _, after := _, guard := _ }) (v := ?_) rfl (by kernel_rfl) (by kernel_rfl) (by kernel_rfl) (fun _ _ _ h => h) (Or.inl ⟨by rfl, ?_⟩) (by assumption) ?_
                  rotate_left
                  · intro w hSw
                    (try dsimp only at hSw)
                    go_simp
                    (try (with_reducible rfl))
                  try simp only [Act.put, List.setIfInBounds_toArray, List.set_cons_zero, List.set_cons_succ]
                  refine wpAnyH_take (i := 4) (oi := { dst := some 80, op := _, type := _, pos := _, after := _, guard := _ }) (v := ?_) rfl (by kernel_rfl) (by kernel_rfl) (by kernel_rfl) (fun _ _ _ h => h) (Or.inl ⟨by rfl, ?_⟩) (by assumption) ?_
                  rotate_left
                  · intro w hSw
                    (try dsimp only at hSw)
                    go_simp
                    (try (with_reducible rfl))
                  try simp only [Act.put, List.setIfInBounds_toArray, List.set_cons_zero, List.set_cons_succ]
                  refine wpAnyH_take (i := 5) (oi := { dst := some 81, op := _, type := _, pos := _, after := _, guard := _ }) (v := ?_) rfl (by kernel_rfl) (by kernel_rfl) (by kernel_rfl) (fun _ _ _ h => h) (Or.inl ⟨by rfl, ?_⟩) (by assumption) ?_
                  rotate_left
                  · intro w hSw
                    (try dsimp only at hSw)
                    go_simp
                    (try (with_reducible rfl))
                  try simp only [Act.put, List.setIfInBounds_toArray, List.set_cons_zero, List.set_cons_succ]
                  refine wpAnyH_take (i := 6) (oi := { dst := some 82, op := _, type := _, pos := _, after := _, guard := _ }) (v := ?_) rfl (by kernel_rfl) (by kernel_rfl) (by kernel_rfl) (fun _ _ _ h => h) (Or.inl ⟨by rfl, ?_⟩) (by assumption) ?_
                  rotate_left
                  · intro w hSw
                    (try dsimp only at hSw)
                    go_simp
                    (try (with_reducible rfl))
                  try simp only [Act.put, List.setIfInBounds_toArray, List.set_cons_zero, List.set_cons_succ]
                  refine wpAnyH_take (i := 7) (oi := { dst := some 83, op := _, type := _, pos := _, after := _, guard := _ }) (v := ?_) rfl (by kernel_rfl) (by kernel_rfl) (by kernel_rfl) (fun _ _ _ h => h) (Or.inl ⟨by rfl, ?_⟩) (by assumption) ?_
                  rotate_left
                  · intro w hSw
                    (try dsimp only at hSw)
                    go_simp
                    (try (with_reducible rfl))
                  try simp only [Act.put, List.setIfInBounds_toArray, List.set_cons_zero, List.set_cons_succ]
                  refine wpAnyH_take (i := 8) (oi := { dst := some 84, op := _, type := _, pos := _, after := _, guard := _ }) (v := ?_) rfl (by kernel_rfl) (by kernel_rfl) (by kernel_rfl) (fun _ _ _ h => h) (Or.inl ⟨by rfl, ?_⟩) (by assumption) ?_
                  rotate_left
                  · intro w hSw
                    (try dsimp only at hSw)
                    go_simp
                    (try (with_reducible rfl))
                  try simp only [Act.put, List.setIfInBounds_toArray, List.set_cons_zero, List.set_cons_succ]
                  refine wpAnyH_done (by kernel_rfl) ?_ _
                  clear hHeld
                  go_wp2
                  go_roundg (GP.length - (k + 1))
                  case measure => omega
                  case rel => exact ⟨k + 1, by omega, rfl, by rw [HSU.out], by go_num, hb, BV, hI, hG, hR⟩
                · subst e1
                  rw [if_neg (by simpa using e2), Int.add_zero] at hsu
                  have f2 : (fb == rb) = false := by rw [beq_eq_false_iff_ne]; exact e2
                  have HSU := Lib.hid hsu
                  clear hsu
                  go_wp2_with fail
                  have hd_ : wr.drew.heap.size = wr.heap.size := rfl
                  replace BV := BV.drew
                  replace hI := hI.drew
                  replace hG := hG.drew
                  replace hR := hR.drew
                  replace hb := hb.drew
                  replace u0 := CellIs.drew u0
                  replace u1 := CellIs.drew u1
                  replace t0 := CellIs.drew t0
                  replace t1 := CellIs.drew t1
                  refine wp_region_held_drew (S := fun w' => w'.cell? ⟨gG, k * 2, none⟩ = some (.int .i64 fa) ∧ w'.cell? ⟨gG, k * 2 + 1, none⟩ = some (.int .i64 fb) ∧ w'.cell? ⟨gR, i * 2, none⟩ = some (.int .i64 fa) ∧ w'.cell? ⟨gR, i * 2 + 1, none⟩ = some (.int .i64 rb)) (by kernel_rfl) ⟨u0, u1, t0, t1⟩ (fun hHeld => ?_)
                  clear hHeld
                  generalize wr.drew = vd at *
                  have hHeld : vd.cell? ⟨gG, k * 2, none⟩ = some (.int .i64 fa) ∧ vd.cell? ⟨gG, k * 2 + 1, none⟩ = some (.int .i64 fb) ∧ vd.cell? ⟨gR, i * 2, none⟩ = some (.int .i64 fa) ∧ vd.cell? ⟨gR, i * 2 + 1, none⟩ = some (.int .i64 rb) := ⟨u0, u1, t0, t1⟩
                  refine wpAnyH_take (i := 0) (oi := { dst := some 76, op := _, type := _, pos := _, after := _, guard := _ }) (v := ?_) rfl (by kernel_rfl) (by kernel_rfl) (by kernel_rfl) (fun _ _ _ h => h) (Or.inl ⟨by rfl, ?_⟩) (by assumption) ?_
                  rotate_left
                  · intro w hSw
                    (try dsimp only at hSw)
                    go_simp
                    (try (with_reducible rfl))
                  try simp only [Act.put, List.setIfInBounds_toArray, List.set_cons_zero, List.set_cons_succ]
                  refine wpAnyH_take (i := 1) (oi := { dst := some 77, op := _, type := _, pos := _, after := _, guard := _ }) (v := ?_) rfl (by kernel_rfl) (by kernel_rfl) (by kernel_rfl) (fun _ _ _ h => h) (Or.inl ⟨by rfl, ?_⟩) (by assumption) ?_
                  rotate_left
                  · intro w hSw
                    (try dsimp only at hSw)
                    go_simp
                    (try (with_reducible rfl))
                  try simp only [Act.put, List.setIfInBounds_toArray, List.set_cons_zero, List.set_cons_succ]
                  refine wpAnyH_take (i := 2) (oi := { dst := some 78, op := _, type := _, pos := _, after := _, guard := _ }) (v := ?_) rfl (by kernel_rfl) (by kernel_rfl) (by kernel_rfl) (fun _ _ _ h => h) (Or.inl ⟨by rfl, ?_⟩) (by assumption) ?_
                  rotate_left
                  · intro w hSw
                    (try dsimp only at hSw)
                    go_simp
                    (try (with_reducible rfl))
                  try simp only [Act.put, List.setIfInBounds_toArray, List.set_cons_zero, List.set_cons_succ]
                  refine wpAnyH_take (i := 3) (oi := { dst := some 79, op := _, type := _, pos := _, after := _, guard := _ }) (v := ?_) rfl (by kernel_rfl) (by kernel_rfl) (by kernel_rfl) (fun _ _ _ h => h) (Or.inl ⟨by rfl, ?_⟩) (by assumption) ?_
                  rotate_left
                  · intro w hSw
                    (try dsimp only at hSw)
                    go_simp
                    (try (with_reducible rfl))
                  try simp only [Act.put, List.setIfInBounds_toArray, List.set_cons_zero, List.set_cons_succ]
                  refine wpAnyH_take (i := 4) (oi := { dst := some 80, op := _, type := _, pos := _, after := _, guard := _ }) (v := ?_) rfl (by kernel_rfl) (by kernel_rfl) (by kernel_rfl) (fun _ _ _ h => h) (Or.inl ⟨by rfl, ?_⟩) (by assumption) ?_
                  rotate_left
                  · intro w hSw
                    (try dsimp only at hSw)
                    go_simp
                    (try (with_reducible rfl))
                  try simp only [Act.put, List.setIfInBounds_toArray, List.set_cons_zero, List.set_cons_succ]
                  refine wpAnyH_take (i := 5) (oi := { dst := some 81, op := _, type := _, pos := _, after := _, guard := _ }) (v := ?_) rfl (by kernel_rfl) (by kernel_rfl) (by kernel_rfl) (fun _ _ _ h => h) (Or.inl ⟨by rfl, ?_⟩) (by assumption) ?_
                  rotate_left
                  · intro w hSw
                    (try dsimp only at hSw)
                    go_simp
                    (try (with_reducible rfl))
                  try simp only [Act.put, List.setIfInBounds_toArray, List.set_cons_zero, List.set_cons_succ]
                  refine wpAnyH_take (i := 6) (oi := { dst := some 82, op := _, type := _, pos := _, after := _, guard := _ }) (v := ?_) rfl (by kernel_rfl) (by kernel_rfl) (by kernel_rfl) (fun _ _ _ h => h) (Or.inl ⟨by rfl, ?_⟩) (by assumption) ?_
                  rotate_left
                  · intro w hSw
                    (try dsimp only at hSw)
                    go_simp
                    (try (with_reducible rfl))
                  try simp only [Act.put, List.setIfInBounds_toArray, List.set_cons_zero, List.set_cons_succ]
                  refine wpAnyH_take (i := 7) (oi := { dst := some 83, op := _, type := _, pos := _, after := _, guard := _ }) (v := ?_) rfl (by kernel_rfl) (by kernel_rfl) (by kernel_rfl) (fun _ _ _ h => h) (Or.inl ⟨by rfl, ?_⟩) (by assumption) ?_
                  rotate_left
                  · intro w hSw
                    (try dsimp only at hSw)
                    go_simp
                    (try (with_reducible rfl))
                  try simp only [Act.put, List.setIfInBounds_toArray, List.set_cons_zero, List.set_cons_succ]
                  refine wpAnyH_take (i := 8) (oi := { dst := some 84, op := _, type := _, pos := _, after := _, guard := _ }) (v := ?_) rfl (by kernel_rfl) (by kernel_rfl) (by kernel_rfl) (fun _ _ _ h => h) (Or.inl ⟨by rfl, ?_⟩) (by assumption) ?_
                  rotate_left
                  · intro w hSw
                    (try dsimp only at hSw)
                    go_simp
                    (try (with_reducible rfl))
                  try simp only [Act.put, List.setIfInBounds_toArray, List.set_cons_zero, List.set_cons_succ]
                  refine wpAnyH_done (by kernel_rfl) ?_ _
                  clear hHeld
                  go_wp2
                  go_roundg (GP.length - (k + 1))
                  case measure => omega
                  case rel => exact ⟨k + 1, by omega, rfl, by rw [HSU.out], by go_num, hb, BV, hI, hG, hR⟩
              · rw [if_neg (fun q => e1 (congrArg Prod.fst q)), Int.add_zero] at hsu
                have f1 : (fa == ra) = false := by rw [beq_eq_false_iff_ne]; exact e1
                have HSU := Lib.hid hsu
                clear hsu
                go_wp2_with fail
                have hd_ : wr.drew.heap.size = wr.heap.size := rfl
                replace BV := BV.drew
                replace hI := hI.drew
                replace hG := hG.drew
                replace hR := hR.drew
                replace hb := hb.drew
                replace u0 := CellIs.drew u0
                replace u1 := CellIs.drew u1
                replace t0 := CellIs.drew t0
                replace t1 := CellIs.drew t1
                refine wp_region_held_drew (S := fun w' => w'.cell? ⟨gG, k * 2, none⟩ = some (.int .i64 fa) ∧ w'.cell? ⟨gG, k * 2 + 1, none⟩ = some (.int .i64 fb) ∧ w'.cell? ⟨gR, i * 2, none⟩ = some (.int .i64 ra) ∧ w'.cell? ⟨gR, i * 2 + 1, none⟩ = some (.int .i64 rb)) (by kernel_rfl) ⟨u0, u1, t0, t1⟩ (fun hHeld => ?_)
                clear hHeld
                generalize wr.drew = vd at *
                have hHeld : vd.cell? ⟨gG, k * 2, none⟩ = some (.int .i64 fa) ∧ vd.cell? ⟨gG, k * 2 + 1, none⟩ = some (.int .i64 fb) ∧ vd.cell? ⟨gR, i * 2, none⟩ = some (.int .i64 ra) ∧ vd.cell? ⟨gR, i * 2 + 1, none⟩ = some (.int .i64 rb) := ⟨u0, u1, t0, t1⟩
                refine wpAnyH_take (i := 0) (oi := { dst := some 76, op := _, type := _, pos := _, after := _, guard := _ }) (v := ?_) rfl (by kernel_rfl) (by kernel_rfl) (by kernel_rfl) (fun _ _ _ h => h) (Or.inl ⟨by rfl, ?_⟩) (by assumption) ?_
                rotate_left
                · intro w hSw
                  (try dsimp only at hSw)
                  go_simp
                  (try (with_reducible rfl))
                try simp only [Act.put, List.setIfInBounds_toArray, List.set_cons_zero, List.set_cons_succ]
                refine wpAnyH_take (i := 1) (oi := { dst := some 77, op := _, type := _, pos := _, after := _, guard := _ }) (v := ?_) rfl (by kernel_rfl) (by kernel_rfl) (by kernel_rfl) (fun _ _ _ h => h) (Or.inl ⟨by rfl, ?_⟩) (by assumption) ?_
                rotate_left
                · intro w hSw
                  (try dsimp only at hSw)
                  go_simp
                  (try (with_reducible rfl))
                try simp only [Act.put, List.setIfInBounds_toArray, List.set_cons_zero, List.set_cons_succ]
                refine wpAnyH_take (i := 2) (oi := { dst := some 78, op := _, type := _, pos := _, after := _, guard := _ }) (v := ?_) rfl (by kernel_rfl) (by kernel_rfl) (by kernel_rfl) (fun _ _ _ h => h) (Or.inl ⟨by rfl, ?_⟩) (by assumption) ?_
                rotate_left
                · intro w hSw
                  (try dsimp only at hSw)
                  go_simp
                  (try (with_reducible rfl))
                try simp only [Act.put, List.setIfInBounds_toArray, List.set_cons_zero, List.set_cons_succ]
                refine wpAnyH_take (i := 3) (oi := { dst := some 79, op := _, type := _, pos := _, after := _, guard := _ }) (v := ?_) rfl (by kernel_rfl) (by kernel_rfl) (by kernel_rfl) (fun _ _ _ h => h) (Or.inl ⟨by rfl, ?_⟩) (by assumption) ?_
                rotate_left
                · intro w hSw
                  (try dsimp only at hSw)
                  go_simp
                  (try (with_reducible rfl))
                try simp only [Act.put, List.setIfInBounds_toArray, List.set_cons_zero, List.set_cons_succ]
                refine wpAnyH_take (i := 4) (oi := { dst := some 80, op := _, type := _, pos := _, after := _, guard := _ }) (v := ?_) rfl (by kernel_rfl) (by kernel_rfl) (by kernel_rfl) (fun _ _ _ h => h) (Or.inl ⟨by rfl, ?_⟩) (by assumption) ?_
                rotate_left
                · intro w hSw
                  (try dsimp only at hSw)
                  go_simp
                  (try (with_reducible rfl))
                try simp only [Act.put, List.setIfInBounds_toArray, List.set_cons_zero, List.set_cons_succ]
                refine wpAnyH_take (i := 5) (oi := { dst := some 81, op := _, type := _, pos := _, after := _, guard := _ }) (v := ?_) rfl (by kernel_rfl) (by kernel_rfl) (by kernel_rfl) (fun _ _ _ h => h) (Or.inl ⟨by rfl, ?_⟩) (by assumption) ?_
                rotate_left
                · intro w hSw
                  (try dsimp only at hSw)
                  go_simp
                  (try (with_reducible rfl))
                try simp only [Act.put, List.setIfInBounds_toArray, List.set_cons_zero, List.set_cons_succ]
                refine wpAnyH_take (i := 6) (oi := { dst := some 82, op := _, type := _, pos := _, after := _, guard := _ }) (v := ?_) rfl (by kernel_rfl) (by kernel_rfl) (by kernel_rfl) (fun _ _ _ h => h) (Or.inl ⟨by rfl, ?_⟩) (by assumption) ?_
                rotate_left
                · intro w hSw
                  (try dsimp only at hSw)
                  go_simp
                  (try (with_reducible rfl))
                try simp only [Act.put, List.setIfInBounds_toArray, List.set_cons_zero, List.set_cons_succ]
                refine wpAnyH_take (i := 7) (oi := { dst := some 83, op := _, type := _, pos := _, after := _, guard := _ }) (v := ?_) rfl (by kernel_rfl) (by kernel_rfl) (by kernel_rfl) (fun _ _ _ h => h) (Or.inl ⟨by rfl, ?_⟩) (by assumption) ?_
                rotate_left
                · intro w hSw
                  (try dsimp only at hSw)
                  go_simp
                  (try (with_reducible rfl))
                try simp only [Act.put, List.setIfInBounds_toArray, List.set_cons_zero, List.set_cons_succ]
                refine wpAnyH_take (i := 8) (oi := { dst := some 84, op := _, type := _, pos := _, after := _, guard := _ }) (v := ?_) rfl (by kernel_rfl) (by kernel_rfl) (by kernel_rfl) (fun _ _ _ h => h) (Or.inl ⟨by rfl, ?_⟩) (by assumption) ?_
                rotate_left
                · intro w hSw
                  (try dsimp only at hSw)
                  go_simp
                  (try (with_reducible rfl))
                try simp only [Act.put, List.setIfInBounds_toArray, List.set_cons_zero, List.set_cons_succ]
                refine wpAnyH_done (by kernel_rfl) ?_ _
                clear hHeld
                go_wp2
                go_roundg (GP.length - (k + 1))
                case measure => omega
                case rel => exact ⟨k + 1, by omega, rfl, by rw [HSU.out], by go_num, hb, BV, hI, hG, hR⟩
            · obtain rfl : k = GP.length := by omega
              rw [HCE1.out]
              obtain ⟨t0, t1⟩ := (hR.row hlt).elim fun g hg => (by
                obtain ⟨e, r⟩ := hg
                simp only [Option.some.injEq, Addr.mk.injEq, and_true] at e
                subst e
                exact r.two i _ HRI.out)
              dsimp only at t0 t1
              obtain ⟨x0, x1, x2, x3, xf, xl⟩ := BV.four
              go_wp2_with fail
              clear x0 x1 x2 x3 xf xl
              have hd_ : wr.drew.heap.size = wr.heap.size := rfl
              replace BV := BV.drew
              replace hI := hI.drew
              replace hG := hG.drew
              replace hR := hR.drew
              replace hb := hb.drew
              replace t0 := CellIs.drew t0
              replace t1 := CellIs.drew t1
              refine wp_region_held_drew (S := fun w' => w'.cell? ⟨w1.heap.size, 0, none⟩ = some (.int .i64 p) ∧ w'.cell? ⟨w1.heap.size, 1, none⟩ = some (.int .i64 c) ∧ w'.cell? ⟨w1.heap.size, 2, none⟩ = some (.int .i64 h) ∧ w'.cell? ⟨w1.heap.size, 3, none⟩ = some (.int .i64 (S : Int)) ∧ w'.cell? ⟨gR, i * 2, none⟩ = some (.int .i64 ra) ∧ w'.cell? ⟨gR, i * 2 + 1, none⟩ = some (.int .i64 rb)) (by kernel_rfl) ⟨BV.four.1, BV.four.2.1, BV.four.2.2.1, BV.four.2.2.2.1, t0, t1⟩ (fun hHeld => ?_)
              clear hHeld
              generalize wr.drew = ve at *
              have hHeld : ve.cell? ⟨w1.heap.size, 0, none⟩ = some (.int .i64 p) ∧ ve.cell? ⟨w1.heap.size, 1, none⟩ = some (.int .i64 c) ∧ ve.cell? ⟨w1.heap.size, 2, none⟩ = some (.int .i64 h) ∧ ve.cell? ⟨w1.heap.size, 3, none⟩ = some (.int .i64 (S : Int)) ∧ ve.cell? ⟨gR, i * 2, none⟩ = some (.int .i64 ra) ∧ ve.cell? ⟨gR, i * 2 + 1, none⟩ = some (.int .i64 rb) := ⟨BV.four.1, BV.four.2.1, BV.four.2.2.1, BV.four.2.2.2.1, t0, t1⟩
              refine wpAnyH_take (i := 0) (oi := { dst := some 87, op := _, type := _, pos := _, after := _, guard := _ }) (v := ?_) rfl (by kernel_rfl) (by kernel_rfl) (by kernel_rfl) (fun _ _ _ h => h) (Or.inl ⟨by rfl, ?_⟩) (by assumption) ?_
              rotate_left
              · intro w hSw
                (try dsimp only at hSw)
                go_simp
                (try (with_reducible rfl))
              try simp only [Act.put, List.setIfInBounds_toArray, List.set_cons_zero, List.set_cons_succ]
              refine wpAnyH_take (i := 1) (oi := { dst := some 88, op := _, type := _, pos := _, after := _, guard := _ }) (v := ?_) rfl (by kernel_rfl) (by kernel_rfl) (by kernel_rfl) (fun _ _ _ h => h) (Or.inl ⟨by rfl, ?_⟩) (by assumption) ?_
              rotate_left
              · intro w hSw
                (try dsimp only at hSw)
                go_simp
                (try (with_reducible rfl))
              try simp only [Act.put, List.setIfInBounds_toArray, List.set_cons_zero, List.set_cons_succ]
              refine wpAnyH_take (i := 2) (oi := { dst := some 89, op := _, type := _, pos := _, after := _, guard := _ }) (v := ?_) rfl (by kernel_rfl) (by kernel_rfl) (by kernel_rfl) (fun _ _ _ h => h) (Or.inl ⟨by rfl, ?_⟩) (by assumption) ?_
              rotate_left
              · intro w hSw
                (try dsimp only at hSw)
                go_simp
                (try (with_reducible rfl))
              try simp only [Act.put, List.setIfInBounds_toArray, List.set_cons_zero, List.set_cons_succ]
              refine wpAnyH_take (i := 3) (oi := { dst := some 90, op := _, type := _, pos := _, after := _, guard := _ }) (v := ?_) rfl (by kernel_rfl) (by kernel_rfl) (by kernel_rfl) (fun _ _ _ h => h) (Or.inl ⟨by rfl, ?_⟩) (by assumption) ?_
              rotate_left
              · intro w hSw
                (try dsimp only at hSw)
                go_simp
                (try (with_reducible rfl))
              try simp only [Act.put, List.setIfInBounds_toArray, List.set_cons_zero, List.set_cons_succ]
              refine wpAnyH_take (i := 4) (oi := { dst := some 91, op := _, type := _, pos := _, after := _, guard := _ }) (v := ?_) rfl (by kernel_rfl) (by kernel_rfl) (by kernel_rfl) (fun _ _ _ h => h) (Or.inl ⟨by rfl, ?_⟩) (by assumption) ?_
              rotate_left
              · intro w hSw
                (try dsimp only at hSw)
                go_simp
                (try (with_reducible rfl))
              try simp only [Act.put, List.setIfInBounds_toArray, List.set_cons_zero, List.set_cons_succ]
              refine wpAnyH_take (i := 5) (oi := { dst := some 92, op := _, type := _, pos := _, after := _, guard := _ }) (v := ?_) rfl (by kernel_rfl) (by kernel_rfl) (by kernel_rfl) (fun _ _ _ h => h) (Or.inl ⟨by rfl, ?_⟩) (by assumption) ?_
              rotate_left
              · intro w hSw
                (try dsimp only at hSw)
                go_simp
                (try (with_reducible rfl))
              try simp only [Act.put, List.setIfInBounds_toArray, List.set_cons_zero, List.set_cons_succ]
              refine wpAnyH_ready (rs := [6]) (by kernel_rfl) (by simp) ?_
              refine AllReadyH.cons (o := { dst := some 93, op := _, type := _, pos := _, after := _, guard := _ }) rfl (fun K hK => ?_) AllReadyH.nil
              go_simp
              refine (HWT.out _).mono ?_
              rintro e wA ⟨rfl, hq⟩
              replace BV := BV.below hq
              replace hI := hI.below hq
              replace hG := hG.below hq
              replace hR := hR.below hq
              replace hb := chain hb hq
              replace t0 := CellIs.below t0 hq
              replace t1 := CellIs.below t1 hq
              (try go_wp2_with fail)
              refine hK.out _ _ ⟨BV.four.1, BV.four.2.1, BV.four.2.2.1, BV.four.2.2.2.1, t0, t1⟩ (fun hHeld => ?_)
              clear hK K
              try simp only [Act.put, List.setIfInBounds_toArray, List.set_cons_zero, List.set_cons_succ]
              refine wpAnyH_take (i := 7) (oi := { dst := some 94, op := _, type := _, pos := _, after := _, guard := _ }) (v := ?_) rfl (by kernel_rfl) (by kernel_rfl) (by kernel_rfl) (fun _ _ _ h => h) (Or.inl ⟨by rfl, ?_⟩) (by assumption) ?_
              rotate_left
              · intro w hSw
                (try dsimp only at hSw)
                go_simp
                (try (with_reducible rfl))
              try simp only [Act.put, List.setIfInBounds_toArray, List.set_cons_zero, List.set_cons_succ]
              refine wpAnyH_done (by kernel_rfl) ?_ _
              clear hHeld
              go_wp2
              go_roundg (RT.length - (i + 1))
              case measure => omega
              case rel => exact ⟨i + 1, by omega, rfl, by go_num, hb, BV, hI, hG, hR⟩
        · obtain rfl : i = RT.length := by omega
          go_wp2_with fail
          go_loopg [16] L.length (fun m q16 wr => ∃ k : Nat, k ≤ L.length ∧ m = L.length - k ∧ q16 = .int .i64 (k : Int) ∧ Below w.heap.size w wr ∧ Blk wr w1.heap.size #[.int .i64 p, .int .i64 c, .int .i64 h, .int .i64 (S : Int)] 25 ∧ ORl v0.heap.size w2.heap.size wr aI L ∧ ORl w3.heap.size w4.heap.size wr aG GP ∧ ORl w4.heap.size w5.heap.size wr aR RT)
          case atStart => exact ⟨0, by omega, by omega, rfl, hb, BV, hI, hG, hR⟩
          case round =>
            clear hb BV hI hG hR
            obtain ⟨k, hk, hm2, rfl, hb, BV, hI, hG, hR⟩ := hrel
            have hk0 : (0 : Int) ≤ (k : Int) := by omega
            have hRp : (0 : Int) < (RT.length : Int) := by omega
            by_cases h1 : k < L.length
            · have h1' : (k : Int) < (L.length : Int) := by omega
              by_cases h2 : k < GP.length
              · have h2' : (k : Int) < (GP.length : Int) := by omega
                obtain ⟨⟨fa, fb⟩, hu⟩ : ∃ r, GP[k]? = some r := ⟨_, List.getElem?_eq_getElem h2⟩
                have hl := hu
                rw [HPRE.out k h2 h1] at hl
                obtain ⟨gG, rfl, RG⟩ := hG.row h2
                obtain ⟨gI, rfl, RI⟩ := hI.row h1
                obtain ⟨u0, u1⟩ := RI.two k _ hl
                obtain ⟨t0, t1⟩ := RG.two k _ hu
                dsimp only at u0 u1 t0 t1
                clear RG RI hu hl
                go_wp2_with fail
                have hd_ : wr.drew.heap.size = wr.heap.size := rfl
                replace BV := BV.drew
                replace hI := hI.drew
                replace hG := hG.drew
                replace hR := hR.drew
                replace hb := hb.drew
                replace u0 := CellIs.drew u0
                replace u1 := CellIs.drew u1
                replace t0 := CellIs.drew t0
                replace t1 := CellIs.drew t1
                refine wp_region_held_drew (S := fun w' => w'.cell? ⟨gI, k * 2, none⟩ = some (.int .i64 fa) ∧ w'.cell? ⟨gI, k * 2 + 1, none⟩ = some (.int .i64 fb) ∧ w'.cell? ⟨gG, k * 2, none⟩ = some (.int .i64 fa) ∧ w'.cell? ⟨gG, k * 2 + 1, none⟩ = some (.int .i64 fb)) (by kernel_rfl) ⟨u0, u1, t0, t1⟩ (fun hHeld => ?_)
                clear hHeld
                generalize wr.drew = vd at *
                have hHeld : vd.cell? ⟨gI, k * 2, none⟩ = some (.int .i64 fa) ∧ vd.cell? ⟨gI, k * 2 + 1, none⟩ = some (.int .i64 fb) ∧ vd.cell? ⟨gG, k * 2, none⟩ = some (.int .i64 fa) ∧ vd.cell? ⟨gG, k * 2 + 1, none⟩ = some (.int .i64 fb) := ⟨u0, u1, t0, t1⟩
                refine wpAnyH_take (i := 0) (oi := { dst := some 107, op := _, type := _, pos := _, after := _, guard := _ }) (v := ?_) rfl (by kernel_rfl) (by kernel_rfl) (by kernel_rfl) (fun _ _ _ h => h) (Or.inl ⟨by rfl, ?_⟩) (by assumption) ?_
                rotate_left
                · intro w hSw
                  (try dsimp only at hSw)
                  go_simp
                  (try (with_reducible rfl))
                try simp only [Act.put, List.setIfInBounds_toArray, List.set_cons_zero, List.set_cons_succ]
                refine wpAnyH_take (i := 1) (oi := { dst := some 108, op := _, type := _, pos := _, after := _, guard := _ }) (v := ?_) rfl (by kernel_rfl) (by kernel_rfl) (by kernel_rfl) (fun _ _ _ h => h) (Or.inl ⟨by rfl, ?_⟩) (by assumption) ?_
                rotate_left
                · intro w hSw
                  (try dsimp only at hSw)
                  go_simp
                  (try (with_reducible rfl))
                try simp only [Act.put, List.setIfInBounds_toArray, List.set_cons_zero, List.set_cons_succ]
                refine wpAnyH_take (i := 2) (oi := { dst := some 109, op := _, type := _, pos := _, after := _, guard := _ }) (v := ?_) rfl (by kernel_rfl) (by kernel_rfl) (by kernel_rfl) (fun _ _ _ h => h) (Or.inl ⟨by rfl, ?_⟩) (by assumption) ?_
                rotate_left
                · intro w hSw
                  (try dsimp only at hSw)
                  go_simp
                  (try (with_reducible rfl))
                try simp only [Act.put, List.setIfInBounds_toArray, List.set_cons_zero, List.set_cons_succ]
                refine wpAnyH_take (i := 3) (oi := { dst := some 110, op := _, type := _, pos := _, after := _, guard := _ }) (v := ?_) rfl (by kernel_rfl) (by kernel_rfl) (by kernel_rfl) (fun _ _ _ h => h) (Or.inl ⟨by rfl, ?_⟩) (by assumption) ?_
                rotate_left
                · intro w hSw
                  (try dsimp only at hSw)
                  go_simp
                  (try (with_reducible rfl))
                try simp only [Act.put, List.setIfInBounds_toArray, List.set_cons_zero, List.set_cons_succ]
                refine wpAnyH_take (i := 4) (oi := { dst := some 111, op := _, type := _, pos := _, after := _, guard := _ }) (v := ?_) rfl (by kernel_rfl) (by kernel_rfl) (by kernel_rfl) (fun _ _ _ h => h) (Or.inl ⟨by rfl, ?_⟩) (by assumption) ?_
                rotate_left
                · intro w hSw
                  (try dsimp only at hSw)
                  go_simp
                  (try (with_reducible rfl))
                try simp only [Act.put, List.setIfInBounds_toArray, List.set_cons_zero, List.set_cons_succ]
                refine wpAnyH_take (i := 5) (oi := { dst := some 112, op := _, type := _, pos := _, after := _, guard := _ }) (v := ?_) rfl (by kernel_rfl) (by kernel_rfl) (by kernel_rfl) (fun _ _ _ h => h) (Or.inl ⟨by rfl, ?_⟩) (by assumption) ?_
                rotate_left
                · intro w hSw
                  (try dsimp only at hSw)
                  go_simp
                  (try (with_reducible rfl))
                try simp only [Act.put, List.setIfInBounds_toArray, List.set_cons_zero, List.set_cons_succ]
                refine wpAnyH_take (i := 6) (oi := { dst := some 113, op := _, type := _, pos := _, after := _, guard := _ }) (v := ?_) rfl (by kernel_rfl) (by kernel_rfl) (by kernel_rfl) (fun _ _ _ h => h) (Or.inl ⟨by rfl, ?_⟩) (by assumption) ?_
                rotate_left
                · intro w hSw
                  (try dsimp only at hSw)
                  go_simp
                  (try (with_reducible rfl))
                try simp only [Act.put, List.setIfInBounds_toArray, List.set_cons_zero, List.set_cons_succ]
                refine wpAnyH_take (i := 7) (oi := { dst := some 114, op := _, type := _, pos := _, after := _, guard := _ }) (v := ?_) rfl (by kernel_rfl) (by kernel_rfl) (by kernel_rfl) (fun _ _ _ h => h) (Or.inl ⟨by rfl, ?_⟩) (by assumption) ?_
                rotate_left
                · intro w hSw
                  (try dsimp only at hSw)
                  go_simp
                  (try (with_reducible rfl))
                try simp only [Act.put, List.setIfInBounds_toArray, List.set_cons_zero, List.set_cons_succ]
                refine wpAnyH_take (i := 8) (oi := { dst := some 115, op := _, type := _, pos := _, after := _, guard := _ }) (v := ?_) rfl (by kernel_rfl) (by kernel_rfl) (by kernel_rfl) (fun _ _ _ h => h) (Or.inl ⟨by rfl, ?_⟩) (by assumption) ?_
                rotate_left
                · intro w hSw
                  (try dsimp only at hSw)
                  go_simp
                  (try (with_reducible rfl))
                try simp only [Act.put, List.setIfInBounds_toArray, List.set_cons_zero, List.set_cons_succ]
                refine wpAnyH_done (by kernel_rfl) ?_ _
                clear hHeld
                go_wp2
                go_roundg (L.length - (k + 1))
                case measure => omega
                case rel => exact ⟨k + 1, by omega, rfl, by go_num, hb, BV, hI, hG, hR⟩
              · have h2' : (GP.length : Int) ≤ (k : Int) := by omega
                obtain ⟨x0, x1, x2, x3, xf, xl⟩ := BV.four
                go_wp2
                go_ret
                exact ⟨by simp, hb⟩
            · have h1' : (L.length : Int) ≤ (k : Int) := by omega
              obtain ⟨x0, x1, x2, x3, xf, xl⟩ := BV.four
              go_wp2
              go_ret
              exact ⟨by simp, hb⟩
set_option maxRecDepth 100000 in
theorem fnStratified_lifted (os : Os) (started : os.Started) (H : Type) (enc : TypeId × Value → H) :
    ReturnsInHanded {} Try.checked os 5 .any (Rows.fnStratifiedSpec.pre6 enc Try.prog Try.f5 Rows.fnStratifiedRow.domain false) (Rows.fnStratifiedSpec.post enc Try.prog Try.f5 false true false false) := by
  refine returnsInHanded_of_change (C := Try.checked) own started (by kernel_rfl) Try.func5
    (ChangeSpec.witness6 (enc := enc) (C := Try.checked) false ⟨#[], #[.slice none 0 0], []⟩ 8 (by kernel_rfl) (by kernel_rfl) (by kernel_rfl) (by kernel_rfl)) ?_
  intro W base args ds gs before hval0 hW hcnd _
  have hval : ∀ (j : Nat) t v, Try.f5.params[j]? = some t → args[j]? = some v → Value.okWide Try.prog W .any base t v := hval0
  have hW' := hW
  obtain ⟨p, q, hA0, hV, rfl, hfz, hnd⟩ := hW
  have hA : DataW.TrodAll enc Try.prog W 0 (fun _ => true) true Try.f5.params.toList args.toList ds p := hA0
  rw [Try.params5] at hA hval
  obtain ⟨v0, vs0, d0, ds0, p0, q0, hargs, rfl, rfl, h0, r0⟩ := trodAll_cons hA
  obtain ⟨rfl, rfl, rfl⟩ := trodAll_nil r0
  obtain rfl : args = #[v0] := by cases args; simp_all
  obtain ⟨rfl, rfl⟩ := trodVars_none hV
  have k0 := h0
  have lt0 : ∀ x ∈ p0, x.block < W.heap.size := by obtain ⟨m, hm⟩ := k0; exact DataW.trod_lt m _ _ _ hm
  obtain ⟨sa_0, sl_0, sc_0, rfl⟩ := okWide_slice Try.underlying22 (hval 0 22 v0 rfl rfl)
  have hcode_0 : CodeIn W.heap.size W sa_0 sl_0 := by
    obtain ⟨fuel, hf⟩ := h0
    rcases open_ints Try.underlying22 Try.underlying5 (by kernel_rfl) hf with ⟨hcs, _⟩ | ⟨x, l, c, zs, hcs, _, hl, hm, hz, _, hcell, hwz⟩
    · simp [Value.cells] at hcs
      obtain ⟨rfl, rfl, rfl⟩ := hcs
      intro i hi
      omega
    · simp [Value.cells] at hcs
      obtain ⟨rfl, rfl, rfl⟩ := hcs
      exact code_of_ints (by have hz2 := hz; simp at hz2; omega) trivial hcell hwz
  clear hA0 hval0
  refine (fnStratified_walk sa_0 sl_0 sc_0 W hcode_0).mono fun e W' ⟨he, bel⟩ => ?_
  subst he
  exact ⟨_, rfl, _, _, _, [], _, [], hW', trodAll_mk1 (shut_bool Try.underlying4 _), (trodAll_cons_mk (Below.trod laidOut (by kernel_rfl) (of_decide_eq_true (by kernel_rfl)) k0 bel lt0) trodAll_mk0), rfl, bel.frame _, fun h => by cases h⟩
theorem fnStratified_holds : Rows.FnStratifiedSaid :=
  OpenClaim.holds_of_wide 5 Try.f5 rfl rfl rfl rfl rfl rfl rfl ⟨rfl, rfl, rfl, rfl, rfl⟩ rfl rfl rfl rfl rfl (by kernel_rfl) Try.func5 (by kernel_rfl)
    (of_decide_eq_true (by kernel_rfl)) (by unfold Func.isWrapper; first | (rw [if_pos (by decide +kernel)]; kernel_rfl) | (rw [if_neg (by decide +kernel)]; exact ⟨rfl, rfl⟩))
    (fun os started H enc _ => fnStratified_lifted os started H enc)
end Go.Proofs.Ytcmfknkdfkchmaa
