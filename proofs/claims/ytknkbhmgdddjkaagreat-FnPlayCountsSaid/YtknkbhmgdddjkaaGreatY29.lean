/- The law of chapter 5 on the numbers of plays holds: for every code the law returns true and the code reads behind the call as it read before. No conditions. -/
import Derived.Test.YtknkbhmgdddjkaaGreatY20
import Derived.Test.YtknkbhmgdddjkaaGreatY27
import Derived.Test.YtknkbhmgdddjkaaGreatY26
import Derived.Test.YtknkbhmgdddjkaaGreatY14
import Derived.Test.YtknkbhmgdddjkaaGreatY28
import Derived.ChangeOld
namespace Go.Proofs.YtknkbhmgdddjkaaGreat
open Go.ChangeMaps (open_string shut_string)
open Go.ChangeShapes Go.WideShapes Go.ChangeAt Go.RowKit
set_option linter.unusedVariables false
set_option linter.unusedSimpArgs false
set_option maxRecDepth 4000

theorem code_of_ints {w : World} {x : Addr} {len : Nat} {zs : List Int} (hl : len ≤ zs.length) (_hz : True) (hcell : ∀ i, i < zs.length → w.cell? (x.add i) = some (.int .u8 (zs.getD i 0))) (hwz : ∀ n ∈ zs, (Lit.int .u8 n).wf = true) : CodeIn w.heap.size w (some x) len := by
  intro i hi
  obtain ⟨b, o, spot⟩ := x
  have hc := hcell i (by omega)
  have hspot : spot = none := by
    have hc0 := hcell 0 (by omega)
    simpa [Addr.add] using World.cell?_spot hc0
  subst hspot
  rw [show (⟨b, o, none⟩ : Addr).add i = ⟨b, o + i, none⟩ from by unfold Addr.add; split <;> simp_all] at hc
  have hm : zs.getD i 0 ∈ zs := by
    have : i < zs.length := by omega
    simp [List.getD, this]
  have hw := hwz _ hm
  have hr : 0 ≤ zs.getD i 0 ∧ zs.getD i 0 ≤ 255 := by simpa [Lit.wf, IntKind.min, IntKind.max, IntKind.signed, IntKind.bits] using hw
  exact ⟨b, o, zs.getD i 0, rfl, World.block_lt_of_cell? w _ hc, hc, hr.1, hr.2⟩
set_option maxRecDepth 8000 in
set_option maxHeartbeats 1500000 in
theorem fnPlayCounts_walk (a : Option Addr) (len cap : Nat) (w : World) (hcode : CodeIn w.heap.size w a len) :
    Calls Tryz.prog 3 #[.slice a len cap] w fun e w' => e = .returned (.bool true) ∧ Below w.heap.size w w' := by
  by_cases hbig : 4096 < len
  · have f0 : decide (4096 < (len : Int)) = true := by simp; omega
    go_enter Tryz.func3, Tryz.ntmps3
    go_wp2_with fail
    refine (big_any _ _ _ _).mono ?_
    rintro e w1 ⟨rfl, rfl⟩
    go_wp2
    go_ret
    exact ⟨rfl, Below.refl _ _⟩
  · have f0 : decide (4096 < (len : Int)) = false := by simp; omega
    go_enter Tryz.func3, Tryz.ntmps3
    go_wp2_with fail
    refine (big_any _ _ _ _).mono ?_
    rintro e w0 ⟨rfl, rfl⟩
    go_wp2_with fail
    refine (drawPlayCounts_any w.heap.size a len cap w (Nat.le_refl _) (by omega) hcode).mono ?_
    rintro e w1 ⟨p, c, h, s, g1, g2, n1, n2, c1, c2, xs, ys, rfl, hx, hy, l1, l2, R1, R2, hbw⟩
    subst hx hy
    replace l1 : xs.length ≤ 1048576 := by omega
    replace l2 : ys.length ≤ 1048576 := by omega
    obtain ⟨BV, BB, hb2, hz⟩ := two_new w1 #[.int .i64 p, .int .i64 c, .int .i64 h, .int .i64 s] #[.slice (some ⟨g1, 0, none⟩) xs.length c1, .slice (some ⟨g2, 0, none⟩) ys.length c2] 25 28
    have r1 := R1.irow.below hb2
    have r2 := R2.irow.below hb2
    replace hbw := chain hbw hb2
    clear R1 R2 hb2 hz
    obtain ⟨x0, x1, x2, x3, xf, xl⟩ := BV.four; obtain ⟨y0, y1, yf, yl⟩ := BB.two
    have hip := fun W (q1 : IRow W (some ⟨g1, 0, none⟩) xs) (q2 : IRow W (some ⟨g2, 0, none⟩) ys) => implPlayCounts_any p c h s _ _ _ _ c1 c2 xs ys W rfl rfl l1 l2 q1 q2
    have hsp := fun W (q1 : IRow W (some ⟨g1, 0, none⟩) xs) (q2 : IRow W (some ⟨g2, 0, none⟩) ys) => specPlayCounts_any p c h s _ _ _ _ c1 c2 xs ys W rfl rfl l1 l2 q1 q2
    have hb := Below.refl ((w1.alloc (.cells #[.int .i64 p, .int .i64 c, .int .i64 h, .int .i64 s] 25)).alloc (.cells #[.slice (some ⟨g1, 0, none⟩) xs.length c1, .slice (some ⟨g2, 0, none⟩) ys.length c2] 28)).heap.size ((w1.alloc (.cells #[.int .i64 p, .int .i64 c, .int .i64 h, .int .i64 s] 25)).alloc (.cells #[.slice (some ⟨g1, 0, none⟩) xs.length c1, .slice (some ⟨g2, 0, none⟩) ys.length c2] 28))
    have hlen := pcL_len p c h s xs ys
    have hli := fun a b c1 c2 W (q1 : IRow W a (pcL p c h s xs ys)) (q2 : IRow W b (pcL p c h s xs ys)) => likeInts_same a b _ c1 c2 (pcL p c h s xs ys) W rfl hlen q1 q2
    by_cases g : isB p c h s xs ys = true ∧ pcOk p.toNat h xs ys (rollsTo s.toNat) = true
    · obtain ⟨gi, gk⟩ := g
      have gv := isB_v gi
      have hs6 := vB_sides gv
      have e1 : pcC p c h s xs ys = 0 := by unfold pcC; rw [if_pos gi, if_pos gk]
      have e2 : pcL p c h s xs ys = pcTo p.toNat h xs ys (rollsTo s.toNat) (rollsTo s.toNat).length := by unfold pcL; rw [if_pos gi, if_pos gk]
      rw [e1] at hip hsp
      rw [e2] at hip hsp hli
      obtain ⟨S, rfl⟩ := Int.eq_ofNat_of_zero_le (by omega : 0 ≤ s)
      have har := fun W => allRolls_any p c h (S : Int) W
      have hdw := fun W (q1 : IRow W (some ⟨g1, 0, none⟩) xs) (q2 : IRow W (some ⟨g2, 0, none⟩) ys) => dancing_any p c h (S : Int) _ _ _ _ c1 c2 xs ys W rfl rfl l1 l2 q1 q2
      have e3 : arL p c h (S : Int) = rollsTo S := by unfold arL; rw [if_pos gv]; rfl
      rw [e3] at har
      rw [if_pos gi] at hdw
      rw [show ((S : Nat) : Int).toNat = S from rfl] at hip hsp hli
      have e4 : dwI p h (S : Int) xs ys = dwTo p.toNat h xs ys (rollsTo S) (rollsTo S).length := rfl
      rw [e4] at hdw
      have hdu := fun ra rb W (q1 : IRow W (some ⟨g1, 0, none⟩) xs) (q2 : IRow W (some ⟨g2, 0, none⟩) ys) => implDiceUsed_any ra rb p c h (S : Int) _ _ _ _ c1 c2 xs ys W rfl rfl l1 l2 q1 q2
      have hrw := fun ra rb W => rollWeight_any p c h (S : Int) ra rb W
      have hmem : ∀ r ∈ rollsTo S, rlB (S : Int) r.1 r.2 = true := fun r hr => rolls_rl hr
      have hpos := fun k r hr => pcTo_at p.toNat h xs ys (rollsTo S) k r hr
      have hpl := pcTo_length p.toNat h xs ys (rollsTo S)
      have hdb := dwTo_bound p.toNat h xs ys (rollsTo S)
      have hds := dwTo_succ p.toNat h xs ys (rollsTo S)
      have hrl := rollsTo_length S
      have hSS : S * S ≤ 6 * 6 := Nat.mul_le_mul (by omega) (by omega)
      obtain ⟨RL, hRL⟩ : ∃ RL, rollsTo S = RL := ⟨_, rfl⟩
      rw [hRL] at hip hsp hli har hdw hmem hpos hpl hdb hds hrl
      obtain ⟨PL, hPL⟩ : ∃ PL, pcTo p.toNat h xs ys RL RL.length = PL := ⟨_, rfl⟩
      rw [hPL] at hip hsp hli hpos hpl
      have hrl36 : RL.length ≤ 36 := by omega
      have f9 : ((RL.length : Int) != (PL.length : Int)) = false := by rw [bne_eq_false_iff_eq]; omega
      have HIP := Lib.hid hip
      have HSP := Lib.hid hsp
      have HLI := Lib.hid hli
      have HAR := Lib.hid har
      have HDW := Lib.hid hdw
      have HDU := Lib.hid hdu
      have HRW := Lib.hid hrw
      have HMEM := Lib.hid hmem
      have HPOS := Lib.hid hpos
      have HPL := Lib.hid hpl
      have HDB := Lib.hid hdb
      have HDS := Lib.hid hds
      have HGI := Lib.hid gi
      have HGV := Lib.hid gv
      clear hip hsp hli har hdw hdu hrw hmem hpos hpl hdb hds hPL hRL e1 e2 e3 e4 gi gk gv hs6 hlen hrl hSS
      go_wp2_with fail
      generalize ((w1.alloc (.cells #[.int .i64 p, .int .i64 c, .int .i64 h, .int .i64 (S : Int)] 25)).alloc (.cells #[.slice (some ⟨g1, 0, none⟩) xs.length c1, .slice (some ⟨g2, 0, none⟩) ys.length c2] 28)) = v1 at *
      go_wp2_with (first | (go_at_call 6; refine (HIP.out _ (r1.below hb) (r2.below hb)).mono ?_; rintro e wq ⟨aI, kI, rfl, OI, hbq⟩; clear HIP; clear x0 x1 x2 x3 xf xl y0 y1 yf yl; replace BV := BV.below hbq; replace BB := BB.below hbq; replace hb := chain hb hbq; clear hbq; obtain ⟨x0, x1, x2, x3, xf, xl⟩ := BV.four; obtain ⟨y0, y1, yf, yl⟩ := BB.two) | (go_at_call 7; refine (HSP.out _ (r1.below hb) (r2.below hb)).mono ?_; rintro e wq ⟨aS, kS, rfl, OS, hbq⟩; clear HSP; clear x0 x1 x2 x3 xf xl y0 y1 yf yl; replace BV := BV.below hbq; replace BB := BB.below hbq; replace OI := OI.below hbq; replace hb := chain hb hbq; clear hbq; obtain ⟨x0, x1, x2, x3, xf, xl⟩ := BV.four; obtain ⟨y0, y1, yf, yl⟩ := BB.two) | (go_at_call 8; refine (HLI.out _ _ _ _ _ OI.irow OS.irow).mono ?_; rintro e wq ⟨rfl, hbq⟩; clear HLI OS; clear x0 x1 x2 x3 xf xl y0 y1 yf yl; replace BV := BV.below hbq; replace BB := BB.below hbq; replace OI := OI.below hbq; replace hb := chain hb hbq; clear hbq; obtain ⟨x0, x1, x2, x3, xf, xl⟩ := BV.four; obtain ⟨y0, y1, yf, yl⟩ := BB.two) | (go_at_call 9; refine (HAR.out _).mono ?_; rintro e wq ⟨aR, kR, rfl, OR_, hbq⟩; clear HAR; clear x0 x1 x2 x3 xf xl y0 y1 yf yl; replace BV := BV.below hbq; replace BB := BB.below hbq; replace OI := OI.below hbq; replace hb := chain hb hbq; clear hbq; obtain ⟨x0, x1, x2, x3, xf, xl⟩ := BV.four; obtain ⟨y0, y1, yf, yl⟩ := BB.two) | (go_at_call 10; refine (HDW.out _ (r1.below hb) (r2.below hb)).mono ?_; rintro e wq ⟨rfl, hbq⟩; clear HDW; clear x0 x1 x2 x3 xf xl y0 y1 yf yl; replace BV := BV.below hbq; replace BB := BB.below hbq; replace OI := OI.below hbq; replace OR_ := OR_.below hbq; replace hb := chain hb hbq; clear hbq; obtain ⟨x0, x1, x2, x3, xf, xl⟩ := BV.four; obtain ⟨y0, y1, yf, yl⟩ := BB.two))
      clear x0 x1 x2 x3 xf xl y0 y1 yf yl
      obtain ⟨loI, hiI, OI⟩ : ∃ lo hi, OSl lo hi wq aI PL := ⟨_, _, OI⟩
      obtain ⟨loR, hiR, OR_⟩ : ∃ lo hi, ORl lo hi wq aR RL := ⟨_, _, OR_⟩
      obtain ⟨D, hD⟩ : ∃ D : Nat → Int, D = dwTo p.toNat h xs ys RL := ⟨_, rfl⟩
      rw [← hD] at HDB HDS
      rw [← hD]
      have HDD := Lib.hid hD
      have hdn := HDB.out RL.length
      obtain ⟨DN, hDN⟩ : ∃ x, D RL.length = x := ⟨_, rfl⟩
      rw [hDN] at hdn
      rw [hDN]
      have HDN := Lib.hid hDN
      clear hD hDN
      go_loopg [10, 12, 13, 14] RL.length (fun m q i v13 v14 wr => ∃ k : Nat, k ≤ RL.length ∧ m = RL.length - k ∧ i = .int .i64 k ∧ q = .int .i64 (DN - D k) ∧ Blk wr w1.heap.size #[.int .i64 p, .int .i64 c, .int .i64 h, .int .i64 (S : Int)] 25 ∧ Blk wr (w1.heap.size + 1) #[.slice (some ⟨g1, 0, none⟩) xs.length c1, .slice (some ⟨g2, 0, none⟩) ys.length c2] 28 ∧ OSl loI hiI wr aI PL ∧ ORl loR hiR wr aR RL ∧ Below v1.heap.size v1 wr)
      case atStart => exact ⟨0, by omega, by omega, rfl, by rw [HDD.out, show dwTo p.toNat h xs ys RL 0 = 0 from rfl, Int.sub_zero], BV, BB, OI, OR_, hb⟩
      case round =>
        clear BV BB OI OR_ hb
        obtain ⟨k, hk, hm, rfl, rfl, BV, BB, OI, OR_, hb⟩ := hrel
        by_cases hlt : k < RL.length
        · have hlt' : (k : Int) < (RL.length : Int) := by omega
          have hk0 : (0 : Int) ≤ (k : Int) := by omega
          have hkP : (k : Int) < (PL.length : Int) := by have := HPL.out; omega
          obtain ⟨gr, rfl, rr⟩ := OR_.row hlt
          obtain ⟨⟨ra, rb⟩, hrk⟩ : ∃ r, RL[k]? = some r := ⟨RL[k]'hlt, List.getElem?_eq_getElem hlt⟩
          obtain ⟨cA, cB⟩ := rr.two k _ hrk
          have hrl := HMEM.out _ (List.mem_of_getElem? hrk)
          have hpo := HPOS.out k _ hrk
          have hap := allP_pos p.toNat h xs ys ra rb
          dsimp only at cA cB hrl hpo
          obtain ⟨b, oo, rfl, hcell⟩ := OI.irow k (by have := HPL.out; omega)
          rw [hpo] at hcell
          have hds := HDS.out k _ hrk
          have hdu := HDU.out ra rb
          have hrw := HRW.out ra rb
          have hbk := HDB.out k
          have hbk1 := HDB.out (k + 1)
          unfold duV at hdu
          rw [if_pos HGI.out, if_pos hrl] at hdu
          have hru : ruB p c h (S : Int) ra rb = true := by unfold ruB; rw [HGV.out, hrl]; rfl
          unfold rwI at hrw
          rw [if_pos hru] at hrw
          have huz := used_zero p.toNat h xs ys ra rb
          obtain ⟨U, hU⟩ : ∃ U, usedP p.toNat h xs ys ra rb = U := ⟨_, rfl⟩
          obtain ⟨AL, hAL⟩ : ∃ AL, ((allP p.toNat h xs ys ra rb).length : Int) = AL := ⟨_, rfl⟩
          obtain ⟨G, hG⟩ : ∃ G : Int, (if ra = rb then (1 : Int) else 2) = G := ⟨_, rfl⟩
          have hG2 : 1 ≤ G ∧ G ≤ 2 := by rw [← hG]; split <;> omega
          rw [hU] at hdu huz
          rw [hAL] at hcell hap
          rw [hG] at hrw hds
          obtain ⟨DK, hDK⟩ : ∃ x, D k = x := ⟨_, rfl⟩
          obtain ⟨DK1, hDK1⟩ : ∃ x, D (k + 1) = x := ⟨_, rfl⟩
          rw [hDK] at hds hbk ⊢
          rw [hDK1] at hds hbk1
          have wl : decide (AL < 1) = false := by rw [decide_eq_false_iff_not]; omega
          have HDUk := Lib.hid hdu
          have HRWk := Lib.hid hrw
          have HDK1 := Lib.hid hDK1
          have BND := Lib.hid (And.intro hdn (And.intro hbk (And.intro hbk1 hG2)))
          have HUZ := Lib.hid huz
          have HDSk := Lib.hid hds
          clear hrl hpo hap hds hdu hrw hbk hbk1 hru huz hU hAL hG hG2 hDK hDK1 hrk rr
          go_wp2_with fail
          have hd_ : wr.drew.heap.size = wr.heap.size := rfl
          replace BV := BV.drew
          replace BB := BB.drew
          replace OI := OI.drew
          replace OR_ := OR_.drew
          replace hb := hb.drew
          replace cA := CellIs.drew cA
          replace cB := CellIs.drew cB
          replace hcell := CellIs.drew hcell
          refine wp_region_held_drew (S := fun w' => w'.cell? ⟨w1.heap.size, 0, none⟩ = some (.int .i64 p) ∧ w'.cell? ⟨w1.heap.size, 1, none⟩ = some (.int .i64 c) ∧ w'.cell? ⟨w1.heap.size, 2, none⟩ = some (.int .i64 h) ∧ w'.cell? ⟨w1.heap.size, 3, none⟩ = some (.int .i64 (S : Int)) ∧ w'.cell? ⟨(w1.heap.size + 1), 0, none⟩ = some (.slice (some ⟨g1, 0, none⟩) xs.length c1) ∧ w'.cell? ⟨(w1.heap.size + 1), 1, none⟩ = some (.slice (some ⟨g2, 0, none⟩) ys.length c2) ∧ w'.cell? ⟨gr, k * 2, none⟩ = some (.int .i64 ra) ∧ w'.cell? ⟨gr, k * 2 + 1, none⟩ = some (.int .i64 rb) ∧ w'.cell? ⟨b, oo + k, none⟩ = some (.int .i64 AL)) (by kernel_rfl) ⟨BV.four.1, BV.four.2.1, BV.four.2.2.1, BV.four.2.2.2.1, BB.two.1, BB.two.2.1, cA, cB, hcell⟩ (fun hHeld => ?_)
          clear hHeld
          generalize wr.drew = vd at *
          have hHeld : vd.cell? ⟨w1.heap.size, 0, none⟩ = some (.int .i64 p) ∧ vd.cell? ⟨w1.heap.size, 1, none⟩ = some (.int .i64 c) ∧ vd.cell? ⟨w1.heap.size, 2, none⟩ = some (.int .i64 h) ∧ vd.cell? ⟨w1.heap.size, 3, none⟩ = some (.int .i64 (S : Int)) ∧ vd.cell? ⟨(w1.heap.size + 1), 0, none⟩ = some (.slice (some ⟨g1, 0, none⟩) xs.length c1) ∧ vd.cell? ⟨(w1.heap.size + 1), 1, none⟩ = some (.slice (some ⟨g2, 0, none⟩) ys.length c2) ∧ vd.cell? ⟨gr, k * 2, none⟩ = some (.int .i64 ra) ∧ vd.cell? ⟨gr, k * 2 + 1, none⟩ = some (.int .i64 rb) ∧ vd.cell? ⟨b, oo + k, none⟩ = some (.int .i64 AL) := ⟨BV.four.1, BV.four.2.1, BV.four.2.2.1, BV.four.2.2.2.1, BB.two.1, BB.two.2.1, cA, cB, hcell⟩
          refine wpAnyH_take (i := 0) (oi := { dst := some 69, op := _, type := _, pos := _, after := _, guard := _ }) (v := ?_) rfl (by kernel_rfl) (by kernel_rfl) (by kernel_rfl) (fun _ _ _ h => h) (Or.inl ⟨by rfl, ?_⟩) (by assumption) ?_
          rotate_left
          · intro w hSw
            (try dsimp only at hSw)
            go_simp
            (try (with_reducible rfl))
          try simp only [Act.put, List.setIfInBounds_toArray, List.set_cons_zero, List.set_cons_succ]
          refine wpAnyH_take (i := 1) (oi := { dst := some 70, op := _, type := _, pos := _, after := _, guard := _ }) (v := ?_) rfl (by kernel_rfl) (by kernel_rfl) (by kernel_rfl) (fun _ _ _ h => h) (Or.inl ⟨by rfl, ?_⟩) (by assumption) ?_
          rotate_left
          · intro w hSw
            (try dsimp only at hSw)
            go_simp
            (try (with_reducible rfl))
          try simp only [Act.put, List.setIfInBounds_toArray, List.set_cons_zero, List.set_cons_succ]
          refine wpAnyH_take (i := 2) (oi := { dst := some 71, op := _, type := _, pos := _, after := _, guard := _ }) (v := ?_) rfl (by kernel_rfl) (by kernel_rfl) (by kernel_rfl) (fun _ _ _ h => h) (Or.inl ⟨by rfl, ?_⟩) (by assumption) ?_
          rotate_left
          · intro w hSw
            (try dsimp only at hSw)
            go_simp
            (try (with_reducible rfl))
          try simp only [Act.put, List.setIfInBounds_toArray, List.set_cons_zero, List.set_cons_succ]
          refine wpAnyH_take (i := 3) (oi := { dst := some 72, op := _, type := _, pos := _, after := _, guard := _ }) (v := ?_) rfl (by kernel_rfl) (by kernel_rfl) (by kernel_rfl) (fun _ _ _ h => h) (Or.inl ⟨by rfl, ?_⟩) (by assumption) ?_
          rotate_left
          · intro w hSw
            (try dsimp only at hSw)
            go_simp
            (try (with_reducible rfl))
          try simp only [Act.put, List.setIfInBounds_toArray, List.set_cons_zero, List.set_cons_succ]
          refine wpAnyH_take (i := 4) (oi := { dst := some 73, op := _, type := _, pos := _, after := _, guard := _ }) (v := ?_) rfl (by kernel_rfl) (by kernel_rfl) (by kernel_rfl) (fun _ _ _ h => h) (Or.inl ⟨by rfl, ?_⟩) (by assumption) ?_
          rotate_left
          · intro w hSw
            (try dsimp only at hSw)
            go_simp
            (try (with_reducible rfl))
          try simp only [Act.put, List.setIfInBounds_toArray, List.set_cons_zero, List.set_cons_succ]
          refine wpAnyH_take (i := 5) (oi := { dst := some 74, op := _, type := _, pos := _, after := _, guard := _ }) (v := ?_) rfl (by kernel_rfl) (by kernel_rfl) (by kernel_rfl) (fun _ _ _ h => h) (Or.inl ⟨by rfl, ?_⟩) (by assumption) ?_
          rotate_left
          · intro w hSw
            (try dsimp only at hSw)
            go_simp
            (try (with_reducible rfl))
          try simp only [Act.put, List.setIfInBounds_toArray, List.set_cons_zero, List.set_cons_succ]
          refine wpAnyH_ready (rs := [6]) (by kernel_rfl) (by simp) ?_
          refine AllReadyH.cons (o := { dst := some 75, op := _, type := _, pos := _, after := _, guard := _ }) rfl (fun K hK => ?_) AllReadyH.nil
          go_simp
          refine (HDUk.out _ (r1.below hb) (r2.below hb)).mono ?_
          rintro e w5 ⟨rfl, hb5⟩
          replace hcell := CellIs.below hcell hb5
          replace cA := CellIs.below cA hb5
          replace cB := CellIs.below cB hb5
          replace BV := BV.below hb5
          replace BB := BB.below hb5
          replace OI := OI.below hb5
          replace OR_ := OR_.below hb5
          replace hb := chain hb hb5
          (try go_wp2_with fail)
          refine hK.out _ _ ⟨BV.four.1, BV.four.2.1, BV.four.2.2.1, BV.four.2.2.2.1, BB.two.1, BB.two.2.1, cA, cB, hcell⟩ (fun hHeld => ?_)
          clear hK K
          try simp only [Act.put, List.setIfInBounds_toArray, List.set_cons_zero, List.set_cons_succ]
          refine wpAnyH_take (i := 7) (oi := { dst := some 68, op := _, type := _, pos := _, after := _, guard := _ }) (v := ?_) rfl (by kernel_rfl) (by kernel_rfl) (by kernel_rfl) (fun _ _ _ h => h) (Or.inl ⟨by rfl, ?_⟩) (by assumption) ?_
          rotate_left
          · intro w hSw
            (try dsimp only at hSw)
            go_simp
            (try (with_reducible rfl))
          try simp only [Act.put, List.setIfInBounds_toArray, List.set_cons_zero, List.set_cons_succ]
          refine wpAnyH_take (i := 8) (oi := { dst := some 76, op := _, type := _, pos := _, after := _, guard := _ }) (v := ?_) rfl (by kernel_rfl) (by kernel_rfl) (by kernel_rfl) (fun _ _ _ h => h) (Or.inl ⟨by rfl, ?_⟩) (by assumption) ?_
          rotate_left
          · intro w hSw
            (try dsimp only at hSw)
            go_simp
            (try (with_reducible rfl))
          try simp only [Act.put, List.setIfInBounds_toArray, List.set_cons_zero, List.set_cons_succ]
          refine wpAnyH_take (i := 9) (oi := { dst := some 77, op := _, type := _, pos := _, after := _, guard := _ }) (v := ?_) rfl (by kernel_rfl) (by kernel_rfl) (by kernel_rfl) (fun _ _ _ h => h) (Or.inl ⟨by rfl, ?_⟩) (by assumption) ?_
          rotate_left
          · intro w hSw
            (try dsimp only at hSw)
            go_simp
            (try (with_reducible rfl))
          try simp only [Act.put, List.setIfInBounds_toArray, List.set_cons_zero, List.set_cons_succ]
          refine wpAnyH_take (i := 10) (oi := { dst := some 13, op := _, type := _, pos := _, after := _, guard := _ }) (v := ?_) rfl (by kernel_rfl) (by kernel_rfl) (by kernel_rfl) (fun _ _ _ h => h) (Or.inl ⟨by rfl, ?_⟩) (by assumption) ?_
          rotate_left
          · intro w hSw
            (try dsimp only at hSw)
            go_simp
            (try (with_reducible rfl))
          try simp only [Act.put, List.setIfInBounds_toArray, List.set_cons_zero, List.set_cons_succ]
          refine wpAnyH_take (i := 11) (oi := { dst := some 14, op := _, type := _, pos := _, after := _, guard := _ }) (v := ?_) rfl (by kernel_rfl) (by kernel_rfl) (by kernel_rfl) (fun _ _ _ h => h) (Or.inl ⟨by rfl, ?_⟩) (by assumption) ?_
          rotate_left
          · intro w hSw
            (try dsimp only at hSw)
            go_simp
            (try (with_reducible rfl))
          try simp only [Act.put, List.setIfInBounds_toArray, List.set_cons_zero, List.set_cons_succ]
          refine wpAnyH_done (by kernel_rfl) ?_ _
          clear hHeld
          obtain ⟨x0, x1, x2, x3, xf, xl⟩ := BV.four; obtain ⟨y0, y1, yf, yl⟩ := BB.two
          have hcl : w5.cell? ⟨b, oo + k, none⟩ = some (.int .i64 AL) := hcell
          by_cases hu : U = 0
          · subst hu
            have hds := HDSk.out
            rw [if_pos (HUZ.out.1 rfl)] at hds
            have wz : IntKind.i64.wrap (DN - DK - G) = DN - DK - G := by have := BND.out; exact IntWalk.i64_in _ (by omega)
            have HD1 := Lib.hid hds
            clear hds HDSk HUZ
            go_wp2_with fail
            clear x0 x1 x2 x3 xf xl y0 y1 yf yl
            clear hcl
            have hd_ : w5.drew.heap.size = w5.heap.size := rfl
            replace BV := BV.drew
            replace BB := BB.drew
            replace OI := OI.drew
            replace OR_ := OR_.drew
            replace hb := hb.drew
            replace cA := CellIs.drew cA
            replace cB := CellIs.drew cB
            replace hcell := CellIs.drew hcell
            refine wp_region_held_drew (S := fun w' => w'.cell? ⟨w1.heap.size, 0, none⟩ = some (.int .i64 p) ∧ w'.cell? ⟨w1.heap.size, 1, none⟩ = some (.int .i64 c) ∧ w'.cell? ⟨w1.heap.size, 2, none⟩ = some (.int .i64 h) ∧ w'.cell? ⟨w1.heap.size, 3, none⟩ = some (.int .i64 (S : Int)) ∧ w'.cell? ⟨(w1.heap.size + 1), 0, none⟩ = some (.slice (some ⟨g1, 0, none⟩) xs.length c1) ∧ w'.cell? ⟨(w1.heap.size + 1), 1, none⟩ = some (.slice (some ⟨g2, 0, none⟩) ys.length c2) ∧ w'.cell? ⟨gr, k * 2, none⟩ = some (.int .i64 ra) ∧ w'.cell? ⟨gr, k * 2 + 1, none⟩ = some (.int .i64 rb) ∧ w'.cell? ⟨b, oo + k, none⟩ = some (.int .i64 AL)) (by kernel_rfl) ⟨BV.four.1, BV.four.2.1, BV.four.2.2.1, BV.four.2.2.2.1, BB.two.1, BB.two.2.1, cA, cB, hcell⟩ (fun hHeld => ?_)
            clear hHeld
            generalize w5.drew = ve at *
            have hHeld : ve.cell? ⟨w1.heap.size, 0, none⟩ = some (.int .i64 p) ∧ ve.cell? ⟨w1.heap.size, 1, none⟩ = some (.int .i64 c) ∧ ve.cell? ⟨w1.heap.size, 2, none⟩ = some (.int .i64 h) ∧ ve.cell? ⟨w1.heap.size, 3, none⟩ = some (.int .i64 (S : Int)) ∧ ve.cell? ⟨(w1.heap.size + 1), 0, none⟩ = some (.slice (some ⟨g1, 0, none⟩) xs.length c1) ∧ ve.cell? ⟨(w1.heap.size + 1), 1, none⟩ = some (.slice (some ⟨g2, 0, none⟩) ys.length c2) ∧ ve.cell? ⟨gr, k * 2, none⟩ = some (.int .i64 ra) ∧ ve.cell? ⟨gr, k * 2 + 1, none⟩ = some (.int .i64 rb) ∧ ve.cell? ⟨b, oo + k, none⟩ = some (.int .i64 AL) := ⟨BV.four.1, BV.four.2.1, BV.four.2.2.1, BV.four.2.2.2.1, BB.two.1, BB.two.2.1, cA, cB, hcell⟩
            refine wpAnyH_take (i := 0) (oi := { dst := some 89, op := _, type := _, pos := _, after := _, guard := _ }) (v := ?_) rfl (by kernel_rfl) (by kernel_rfl) (by kernel_rfl) (fun _ _ _ h => h) (Or.inl ⟨by rfl, ?_⟩) (by assumption) ?_
            rotate_left
            · intro w hSw
              (try dsimp only at hSw)
              go_simp
              (try (with_reducible rfl))
            try simp only [Act.put, List.setIfInBounds_toArray, List.set_cons_zero, List.set_cons_succ]
            refine wpAnyH_take (i := 1) (oi := { dst := some 90, op := _, type := _, pos := _, after := _, guard := _ }) (v := ?_) rfl (by kernel_rfl) (by kernel_rfl) (by kernel_rfl) (fun _ _ _ h => h) (Or.inl ⟨by rfl, ?_⟩) (by assumption) ?_
            rotate_left
            · intro w hSw
              (try dsimp only at hSw)
              go_simp
              (try (with_reducible rfl))
            try simp only [Act.put, List.setIfInBounds_toArray, List.set_cons_zero, List.set_cons_succ]
            refine wpAnyH_take (i := 2) (oi := { dst := some 91, op := _, type := _, pos := _, after := _, guard := _ }) (v := ?_) rfl (by kernel_rfl) (by kernel_rfl) (by kernel_rfl) (fun _ _ _ h => h) (Or.inl ⟨by rfl, ?_⟩) (by assumption) ?_
            rotate_left
            · intro w hSw
              (try dsimp only at hSw)
              go_simp
              (try (with_reducible rfl))
            try simp only [Act.put, List.setIfInBounds_toArray, List.set_cons_zero, List.set_cons_succ]
            refine wpAnyH_take (i := 3) (oi := { dst := some 92, op := _, type := _, pos := _, after := _, guard := _ }) (v := ?_) rfl (by kernel_rfl) (by kernel_rfl) (by kernel_rfl) (fun _ _ _ h => h) (Or.inl ⟨by rfl, ?_⟩) (by assumption) ?_
            rotate_left
            · intro w hSw
              (try dsimp only at hSw)
              go_simp
              (try (with_reducible rfl))
            try simp only [Act.put, List.setIfInBounds_toArray, List.set_cons_zero, List.set_cons_succ]
            refine wpAnyH_take (i := 4) (oi := { dst := some 93, op := _, type := _, pos := _, after := _, guard := _ }) (v := ?_) rfl (by kernel_rfl) (by kernel_rfl) (by kernel_rfl) (fun _ _ _ h => h) (Or.inl ⟨by rfl, ?_⟩) (by assumption) ?_
            rotate_left
            · intro w hSw
              (try dsimp only at hSw)
              go_simp
              (try (with_reducible rfl))
            try simp only [Act.put, List.setIfInBounds_toArray, List.set_cons_zero, List.set_cons_succ]
            refine wpAnyH_take (i := 5) (oi := { dst := some 94, op := _, type := _, pos := _, after := _, guard := _ }) (v := ?_) rfl (by kernel_rfl) (by kernel_rfl) (by kernel_rfl) (fun _ _ _ h => h) (Or.inl ⟨by rfl, ?_⟩) (by assumption) ?_
            rotate_left
            · intro w hSw
              (try dsimp only at hSw)
              go_simp
              (try (with_reducible rfl))
            try simp only [Act.put, List.setIfInBounds_toArray, List.set_cons_zero, List.set_cons_succ]
            refine wpAnyH_ready (rs := [6]) (by kernel_rfl) (by simp) ?_
            refine AllReadyH.cons (o := { dst := some 95, op := _, type := _, pos := _, after := _, guard := _ }) rfl (fun K hK => ?_) AllReadyH.nil
            go_simp
            refine (HRWk.out _).mono ?_
            rintro e w6 ⟨rfl, hb5⟩
            replace hcell := CellIs.below hcell hb5
            replace cA := CellIs.below cA hb5
            replace cB := CellIs.below cB hb5
            replace BV := BV.below hb5
            replace BB := BB.below hb5
            replace OI := OI.below hb5
            replace OR_ := OR_.below hb5
            replace hb := chain hb hb5
            (try go_wp2_with fail)
            refine hK.out _ _ ⟨BV.four.1, BV.four.2.1, BV.four.2.2.1, BV.four.2.2.2.1, BB.two.1, BB.two.2.1, cA, cB, hcell⟩ (fun hHeld => ?_)
            clear hK K
            try simp only [Act.put, List.setIfInBounds_toArray, List.set_cons_zero, List.set_cons_succ]
            refine wpAnyH_take (i := 7) (oi := { dst := some 96, op := _, type := _, pos := _, after := _, guard := _ }) (v := ?_) rfl (by kernel_rfl) (by kernel_rfl) (by kernel_rfl) (fun _ _ _ h => h) (Or.inl ⟨by rfl, ?_⟩) (by assumption) ?_
            rotate_left
            · intro w hSw
              (try dsimp only at hSw)
              go_simp
              (try (with_reducible rfl))
            try simp only [Act.put, List.setIfInBounds_toArray, List.set_cons_zero, List.set_cons_succ]
            refine wpAnyH_take (i := 8) (oi := { dst := some 10, op := _, type := _, pos := _, after := _, guard := _ }) (v := ?_) rfl (by kernel_rfl) (by kernel_rfl) (by kernel_rfl) (fun _ _ _ h => h) (Or.inl ⟨by rfl, ?_⟩) (by assumption) ?_
            rotate_left
            · intro w hSw
              (try dsimp only at hSw)
              go_simp
              (try (with_reducible rfl))
            try simp only [Act.put, List.setIfInBounds_toArray, List.set_cons_zero, List.set_cons_succ]
            refine wpAnyH_done (by kernel_rfl) ?_ _
            clear hHeld
            go_wp2
            go_roundg (RL.length - (k + 1))
            case measure => omega
            case rel => exact ⟨k + 1, by omega, rfl, by go_num, by rw [HDK1.out]; congr 1; have := HD1.out; omega, BV, BB, OI, OR_, hb⟩
          · have hds := HDSk.out
            rw [if_neg (fun q => hu (HUZ.out.2 q))] at hds
            have fu : (((U : Nat) : Int) == 0) = false := by rw [beq_eq_false_iff_ne]; omega
            have HD1 := Lib.hid hds
            clear hds HDSk HUZ hu
            go_wp2
            go_roundg (RL.length - (k + 1))
            case measure => omega
            case rel => exact ⟨k + 1, by omega, rfl, by go_num, by rw [HDK1.out]; congr 1; have := HD1.out; omega, BV, BB, OI, OR_, hb⟩
        · obtain rfl : k = RL.length := by omega
          have hlt' : ¬ ((RL.length : Nat) : Int) < (RL.length : Int) := by omega
          have e0 : DN - D RL.length = 0 := by have := HDN.out; omega
          rw [e0]
          go_wp2
          go_ret
          exact ⟨rfl, chain hbw hb⟩
    · have e1 : pcC p c h s xs ys ≠ 0 := by
        unfold pcC
        by_cases gi : isB p c h s xs ys = true
        · rw [if_pos gi, if_neg (fun q => g ⟨gi, q⟩)]; decide
        · rw [if_neg gi]; decide
      obtain ⟨E, hE⟩ : ∃ E, pcC p c h s xs ys = E := ⟨_, rfl⟩
      obtain ⟨PL, hPL⟩ : ∃ PL, pcL p c h s xs ys = PL := ⟨_, rfl⟩
      rw [hE] at hip hsp e1
      rw [hPL] at hip hsp hli
      have ne : (E != 0) = true := by rw [bne_iff_ne]; exact e1
      have HIP := Lib.hid hip
      have HSP := Lib.hid hsp
      have HLI := Lib.hid hli
      clear hip hsp hli hE hPL e1 g hlen
      go_wp2_with fail
      generalize ((w1.alloc (.cells #[.int .i64 p, .int .i64 c, .int .i64 h, .int .i64 s] 25)).alloc (.cells #[.slice (some ⟨g1, 0, none⟩) xs.length c1, .slice (some ⟨g2, 0, none⟩) ys.length c2] 28)) = v1 at *
      go_wp2_with (first | (go_at_call 6; refine (HIP.out _ (r1.below hb) (r2.below hb)).mono ?_; rintro e wq ⟨aI, kI, rfl, OI, hbq⟩; clear HIP; clear x0 x1 x2 x3 xf xl y0 y1 yf yl; replace BV := BV.below hbq; replace BB := BB.below hbq; replace hb := chain hb hbq; clear hbq; obtain ⟨x0, x1, x2, x3, xf, xl⟩ := BV.four; obtain ⟨y0, y1, yf, yl⟩ := BB.two) | (go_at_call 7; refine (HSP.out _ (r1.below hb) (r2.below hb)).mono ?_; rintro e wq ⟨aS, kS, rfl, OS, hbq⟩; clear HSP; clear x0 x1 x2 x3 xf xl y0 y1 yf yl; replace BV := BV.below hbq; replace BB := BB.below hbq; replace OI := OI.below hbq; replace hb := chain hb hbq; clear hbq; obtain ⟨x0, x1, x2, x3, xf, xl⟩ := BV.four; obtain ⟨y0, y1, yf, yl⟩ := BB.two) | (go_at_call 8; refine (HLI.out _ _ _ _ _ OI.irow OS.irow).mono ?_; rintro e wq ⟨rfl, hbq⟩; clear HLI OS; clear x0 x1 x2 x3 xf xl y0 y1 yf yl; replace BV := BV.below hbq; replace BB := BB.below hbq; replace OI := OI.below hbq; replace hb := chain hb hbq; clear hbq; obtain ⟨x0, x1, x2, x3, xf, xl⟩ := BV.four; obtain ⟨y0, y1, yf, yl⟩ := BB.two))
      go_ret
      exact ⟨rfl, chain hbw hb⟩
set_option maxRecDepth 100000 in
theorem fnPlayCounts_lifted (os : Os) (started : os.Started) (H : Type) (enc : TypeId × Value → H) :
    ReturnsInHanded {} Tryz.checked os 3 .any (Rows.fnPlayCountsSpec.pre6 enc Tryz.prog Tryz.f3 Rows.fnPlayCountsRow.domain false) (Rows.fnPlayCountsSpec.post enc Tryz.prog Tryz.f3 false true false false) := by
  refine returnsInHanded_of_change (C := Tryz.checked) own started (by kernel_rfl) Tryz.func3
    (ChangeSpec.witness6 (enc := enc) (C := Tryz.checked) false ⟨#[], #[.slice none 0 0], []⟩ 8 (by kernel_rfl) (by kernel_rfl) (by kernel_rfl) (by kernel_rfl)) ?_
  intro W base args ds gs before hval0 hW hcnd _
  have hval : ∀ (j : Nat) t v, Tryz.f3.params[j]? = some t → args[j]? = some v → Value.okWide Tryz.prog W .any base t v := hval0
  have hW' := hW
  obtain ⟨p, q, hA0, hV, rfl, hfz, hnd⟩ := hW
  have hA : DataW.TrodAll enc Tryz.prog W 0 (fun _ => true) true Tryz.f3.params.toList args.toList ds p := hA0
  rw [Tryz.params3] at hA hval
  obtain ⟨v0, vs0, d0, ds0, p0, q0, hargs, rfl, rfl, h0, r0⟩ := trodAll_cons hA
  obtain ⟨rfl, rfl, rfl⟩ := trodAll_nil r0
  obtain rfl : args = #[v0] := by cases args; simp_all
  obtain ⟨rfl, rfl⟩ := trodVars_none hV
  have k0 := h0
  have lt0 : ∀ x ∈ p0, x.block < W.heap.size := by obtain ⟨m, hm⟩ := k0; exact DataW.trod_lt m _ _ _ hm
  obtain ⟨sa_0, sl_0, sc_0, rfl⟩ := okWide_slice Tryz.underlying22 (hval 0 22 v0 rfl rfl)
  have hcode_0 : CodeIn W.heap.size W sa_0 sl_0 := by
    obtain ⟨fuel, hf⟩ := h0
    rcases open_ints Tryz.underlying22 Tryz.underlying5 (by kernel_rfl) hf with ⟨hcs, _⟩ | ⟨x, l, c, zs, hcs, _, hl, hm, hz, _, hcell, hwz⟩
    · simp [Value.cells] at hcs
      obtain ⟨rfl, rfl, rfl⟩ := hcs
      intro i hi
      omega
    · simp [Value.cells] at hcs
      obtain ⟨rfl, rfl, rfl⟩ := hcs
      exact code_of_ints (by have hz2 := hz; simp at hz2; omega) trivial hcell hwz
  clear hA0 hval0
  refine (fnPlayCounts_walk sa_0 sl_0 sc_0 W hcode_0).mono fun e W' ⟨he, bel⟩ => ?_
  subst he
  exact ⟨_, rfl, _, _, _, [], _, [], hW', trodAll_mk1 (shut_bool Tryz.underlying4 _), (trodAll_cons_mk (Below.trod laidOut (by kernel_rfl) (of_decide_eq_true (by kernel_rfl)) k0 bel lt0) trodAll_mk0), rfl, bel.frame _, fun h => by cases h⟩
theorem fnPlayCounts_holds : Rows.FnPlayCountsSaid :=
  OpenClaim.holds_of_wide 3 Tryz.f3 rfl rfl rfl rfl rfl rfl rfl ⟨rfl, rfl, rfl, rfl, rfl⟩ rfl rfl rfl rfl rfl (by kernel_rfl) Tryz.func3 (by kernel_rfl)
    (of_decide_eq_true (by kernel_rfl)) (by unfold Func.isWrapper; first | (rw [if_pos (by decide +kernel)]; kernel_rfl) | (rw [if_neg (by decide +kernel)]; exact ⟨rfl, rfl⟩))
    (fun os started H enc _ => fnPlayCounts_lifted os started H enc)
end Go.Proofs.YtknkbhmgdddjkaaGreat
