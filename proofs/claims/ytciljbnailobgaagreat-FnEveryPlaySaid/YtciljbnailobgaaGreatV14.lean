/- Texts of a proof, laid together. -/
import Derived.Test.YtciljbnailobgaaGreatV13
import Derived.Test.YtciljbnailobgaaGreatV06
import Derived.Lib.MinMax
namespace Go.Proofs.YtciljbnailobgaaGreat
open Go.ChangeShapes Go.WideShapes Go.ChangeAt Go.RowKit
set_option linter.unusedVariables false
set_option linter.unusedSimpArgs false
set_option maxRecDepth 4000
def Steps (l : List Ply) (k : Nat) : Prop := ∀ q ∈ l, q.1.length = k
theorem nextP_steps {P : Nat} {h d : Int} {l : List Ply} {k : Nat} (hs : Steps l k) : Steps (nextP P h d l) (k + 1) := by
  intro q hq
  rcases addAll_mem hq with hq | hq
  · simp at hq
  · obtain ⟨p, hp, hq⟩ := List.mem_flatMap.1 hq
    obtain ⟨t, ht, rfl⟩ := List.mem_map.1 hq
    simp [oneMore, hs p hp]
def LongGot (ps : List Ply) (n : Nat) (f : Bool) (w : World) (e : Ending) (w' : World) : Prop :=
  ∃ (a : Option Addr) (k : Nat) (l : List PP), e = .returned (.tuple #[.slice a l.length k, .int .i64 (n : Int), .bool f]) ∧ l.map Prod.snd = ps ∧ OPl w.heap.size w'.heap.size w' a l ∧ PAll w.heap.size w'.heap.size w' l ∧ (∀ x ∈ l, ∃ g, x.1.sa = some ⟨g, 0, none⟩) ∧ Below w.heap.size w w'
theorem OSt.newC (w : World) (B : Nat) (hB : B ≤ w.heap.size) : OSt B (w.alloc (.cells #[] 55)).heap.size (w.alloc (.cells #[] 55)) (some ⟨w.heap.size, 0, none⟩) [] :=
  .inr ⟨w.heap.size, rfl, hB, by simp, #[], Blk.new w #[] _, by simp [stepsC], rfl⟩
set_option maxRecDepth 8000 in
set_option maxHeartbeats 2000000 in
theorem l05Longest_any (P : Nat) (c h s : Int) (a1 a2 a3 : Option Addr) (n1 n2 n3 c1 c2 c3 : Nat) (xs ys ds : List Int) (w : World) (h1 : xs.length = n1) (h2 : ys.length = n2) (h3 : ds.length = n3) (l3 : n3 ≤ 4) (r1 : IRow w a1 xs) (r2 : IRow w a2 ys) (r3 : IRow w a3 ds)
    (g : isB (P : Int) c h s xs ys = true) (hds : ∀ d ∈ ds, inB d 1 s = true) :
    Calls Tryz.prog 54 #[.agg #[.int .i64 (P : Int), .int .i64 c, .int .i64 h, .int .i64 s], .agg #[.slice a1 n1 c1, .slice a2 n2 c2], .slice a3 n3 c3] w (LongGot (longP P h ds (startP xs ys)) (longN P h ds (startP xs ys)) (fineP P h ds (startP xs ys)) w) := by
  subst h1 h2 h3
  obtain ⟨p0, p1, k0, k1, k2, k3, N1, N2, hx, hy, s0, s1, s2, s3⟩ := isB_parts g
  have hfi : Fine (P : Int) c h s (startP xs ys) := fun q hq => by simp [startP] at hq; subst hq; exact g
  obtain ⟨RP, hRP⟩ : ∃ z, longP P h ds (startP xs ys) = z := ⟨_, rfl⟩
  obtain ⟨RN, hRN⟩ : ∃ z, longN P h ds (startP xs ys) = z := ⟨_, rfl⟩
  obtain ⟨RF, hRF⟩ : ∃ z, fineP P h ds (startP xs ys) = z := ⟨_, rfl⟩
  rw [hRP, hRN, hRF]
  have HRP := Lib.hid hRP
  have HRN := Lib.hid hRN
  have HRF := Lib.hid hRF
  have HFI := Lib.hid hfi
  have HDS := Lib.hid hds
  replace p1 : P ≤ 24 := by omega
  clear hRP hRN hRF hfi hds hx hy g
  obtain ⟨BV, BB, hb, hz⟩ := two_new w #[.int .i64 (P : Int), .int .i64 c, .int .i64 h, .int .i64 s] #[.slice a1 xs.length c1, .slice a2 ys.length c2] 25 28
  have hz1 : w.heap.size + 1 + 1 ≤ ((w.alloc (.cells #[.int .i64 (P : Int), .int .i64 c, .int .i64 h, .int .i64 s] 25)).alloc (.cells #[.slice a1 xs.length c1, .slice a2 ys.length c2] 28)).heap.size := by rw [hz]; omega
  clear hz
  replace r1 := r1.below hb
  replace r2 := r2.below hb
  replace r3 := r3.below hb
  obtain ⟨x0, x1, x2, x3, xf, xl⟩ := BV.four
  obtain ⟨y0, y1, yf, yl⟩ := BB.two
  go_enter Tryz.func54, Tryz.ntmps54
  go_wp2_with fail
  clear x0 x1 x2 x3 xf xl y0 y1 yf yl
  generalize ((w.alloc (.cells #[.int .i64 (P : Int), .int .i64 c, .int .i64 h, .int .i64 s] 25)).alloc (.cells #[.slice a1 xs.length c1, .slice a2 ys.length c2] 28)) = v0 at *
  refine wp_region_held_drew (S := fun w' => w'.cell? ⟨w.heap.size + 1, 0, none⟩ = some (.slice a1 xs.length c1) ∧ w'.cell? ⟨w.heap.size + 1, 1, none⟩ = some (.slice a2 ys.length c2)) (by kernel_rfl) ⟨(BB.below (Below.refl _ _).drew).two.1, (BB.below (Below.refl _ _).drew).two.2.1⟩ (fun hHeld => ?_)
  clear hHeld
  have hbS : Below v0.heap.size v0 v0.drew := (Below.refl _ _).drew
  have hzd := hbS.size
  generalize v0.drew = vd at *
  have hHeld : vd.cell? ⟨w.heap.size + 1, 0, none⟩ = some (.slice a1 xs.length c1) ∧ vd.cell? ⟨w.heap.size + 1, 1, none⟩ = some (.slice a2 ys.length c2) := ⟨(BB.below hbS).two.1, (BB.below hbS).two.2.1⟩
  refine tk 1 14 ?_
  refine tk 2 15 ?_
  refine tk 4 17 ?_
  refine tk 5 18 ?_
  refine wpAnyH_ready (rs := [0, 3]) (by kernel_rfl) (by simp) ?_
  refine AllReadyH.cons (o := ⟨some 13, _, _, _, _, _⟩) rfl (fun K hK => ?_) (AllReadyH.cons (o := ⟨some 16, _, _, _, _, _⟩) rfl (fun K hK => ?_) AllReadyH.nil)
  · go_simp
    (try go_wp2_with fail)
    refine hko hK (Blk.l2 (BB.below (hbS.alloc hbS.size _))) fun hHeld => ?_
    clear hK K
    have BE : OSt v0.heap.size (vd.alloc (.cells #[] 55)).heap.size (vd.alloc (.cells #[] 55)) (some ⟨vd.heap.size, 0, none⟩) [] := OSt.newC vd _ hbS.size
    have hzE : vd.heap.size ≤ (vd.alloc (.cells #[] 55)).heap.size := by simp
    replace hbS := hbS.alloc hbS.size (.cells #[] 55)
    generalize (vd.alloc (.cells #[] 55)) = wE at *
    refine rdk 3 16 fun K hK => ?_
    go_simp
    refine (l02Own_any a1 xs.length c1 xs _ rfl (by omega) (by omega) (r1.below hbS)).mono ?_
    rintro e wA ⟨gA, kA, rfl, hgA, RA, hbA⟩
    replace BE := (BE.below hbA).mono (Nat.le_refl _) hbA.size
    have hlA0 := RA.lt
    have hzA := hbA.size
    have hgA2 := hbS.size
    replace hbS := chain hbS hbA
    clear hbA
    (try go_wp2_with fail)
    refine hko hK (Blk.l2 (BB.below hbS)) fun hHeld => ?_
    clear hK K
    refine rdk 6 19 fun K hK => ?_
    go_simp
    refine (l02Own_any a2 ys.length c2 ys _ rfl (by omega) (by omega) (r2.below hbS)).mono ?_
    rintro e wB ⟨gB, kB, rfl, hgB, RB, hbB⟩
    replace BE := (BE.below hbB).mono (Nat.le_refl _) hbB.size
    replace RA := RA.below hbB
    have hzB := hbB.size
    replace hbS := chain hbS hbB
    clear hbB
    (try go_wp2_with fail)
    refine hko hK (Blk.l2 (BB.below hbS)) fun hHeld => ?_
    clear hK K
    refine tk 7 20 ?_
    refine tk 8 21 ?_
    refine rdk 9 22 fun K hK => ?_
    go_simp
    (try go_wp2_with fail)
    refine hko hK (Blk.l2 (BB.below (hbS.alloc hbS.size _))) fun hHeld => ?_
    clear hK K
    have BP := Blk.new wB #[.slice (some ⟨vd.heap.size, 0, none⟩) 0 0, .slice (some ⟨gA, 0, none⟩) xs.length kA, .slice (some ⟨gB, 0, none⟩) ys.length kB] 44
    have hzP : wB.heap.size + 1 ≤ (wB.alloc (.cells #[.slice (some ⟨vd.heap.size, 0, none⟩) 0 0, .slice (some ⟨gA, 0, none⟩) xs.length kA, .slice (some ⟨gB, 0, none⟩) ys.length kB] 44)).heap.size := by simp
    have hlA := RA.lt
    have hlB := RB.lt
    replace BE := BE.alloc (.cells #[.slice (some ⟨vd.heap.size, 0, none⟩) 0 0, .slice (some ⟨gA, 0, none⟩) xs.length kA, .slice (some ⟨gB, 0, none⟩) ys.length kB] 44)
    replace RA := RA.alloc (.cells #[.slice (some ⟨vd.heap.size, 0, none⟩) 0 0, .slice (some ⟨gA, 0, none⟩) xs.length kA, .slice (some ⟨gB, 0, none⟩) ys.length kB] 44)
    replace RB := RB.alloc (.cells #[.slice (some ⟨vd.heap.size, 0, none⟩) 0 0, .slice (some ⟨gA, 0, none⟩) xs.length kA, .slice (some ⟨gB, 0, none⟩) ys.length kB] 44)
    have hzS := hbS.size
    replace hbS := hbS.alloc hbS.size (.cells #[.slice (some ⟨vd.heap.size, 0, none⟩) 0 0, .slice (some ⟨gA, 0, none⟩) xs.length kA, .slice (some ⟨gB, 0, none⟩) ys.length kB] 44)
    generalize (wB.alloc (.cells #[.slice (some ⟨vd.heap.size, 0, none⟩) 0 0, .slice (some ⟨gA, 0, none⟩) xs.length kA, .slice (some ⟨gB, 0, none⟩) ys.length kB] 44)) = wP at *
    generalize hzz : wB.heap.size = zz at *
    have hX : PAt v0.heap.size wP.heap.size wP ((⟨some ⟨vd.heap.size, 0, none⟩, 0, some ⟨gA, 0, none⟩, kA, some ⟨gB, 0, none⟩, kB⟩ : PD), (([] : List Stp), xs, ys)) := ⟨BE.mono (Nat.le_refl _) (by omega), .inr ⟨gA, gB, rfl, rfl, by omega, by omega, by omega, by omega, by omega, RA, RB⟩⟩
    have hOP : OPl v0.heap.size wP.heap.size wP (some ⟨zz, 0, none⟩) [((⟨some ⟨vd.heap.size, 0, none⟩, 0, some ⟨gA, 0, none⟩, kA, some ⟨gB, 0, none⟩, kB⟩ : PD), (([] : List Stp), xs, ys))] := .inr ⟨zz, rfl, by omega, BP.lt, PRow.one (u := ((⟨some ⟨vd.heap.size, 0, none⟩, 0, some ⟨gA, 0, none⟩, kA, some ⟨gB, 0, none⟩, kB⟩ : PD), (([] : List Stp), xs, ys))) BP⟩
    have hPA : PAll v0.heap.size wP.heap.size wP [((⟨some ⟨vd.heap.size, 0, none⟩, 0, some ⟨gA, 0, none⟩, kA, some ⟨gB, 0, none⟩, kB⟩ : PD), (([] : List Stp), xs, ys))] := fun x hx => by simp at hx; subst hx; exact hX
    have hSA : ∀ x ∈ [((⟨some ⟨vd.heap.size, 0, none⟩, 0, some ⟨gA, 0, none⟩, kA, some ⟨gB, 0, none⟩, kB⟩ : PD), (([] : List Stp), xs, ys))], ∃ g, x.1.sa = some ⟨g, 0, none⟩ := fun x hx => by simp at hx; subst hx; exact ⟨_, rfl⟩
    have hDm : [((⟨some ⟨vd.heap.size, 0, none⟩, 0, some ⟨gA, 0, none⟩, kA, some ⟨gB, 0, none⟩, kB⟩ : PD), (([] : List Stp), xs, ys))].map Prod.snd = startP xs ys := rfl
    have hD1 : [((⟨some ⟨vd.heap.size, 0, none⟩, 0, some ⟨gA, 0, none⟩, kA, some ⟨gB, 0, none⟩, kB⟩ : PD), (([] : List Stp), xs, ys))].length = 1 := rfl
    generalize [((⟨some ⟨vd.heap.size, 0, none⟩, 0, some ⟨gA, 0, none⟩, kA, some ⟨gB, 0, none⟩, kB⟩ : PD), (([] : List Stp), xs, ys))] = D0 at *
    have hDl : D0.length ≤ 1 := by omega
    have HD1 := Lib.hid hD1
    clear hX BP BE RA RB hzz hD1
    refine tk 10 9 ?_
    refine wpAnyH_done (by kernel_rfl) ?_ _
    clear hHeld
    have hb9 := hb.trans (hbS.mono hb.size)
    go_wp2_with fail
    go_loopg [6, 7, 8, 9, 10, 11, 12] ds.length (fun m q6 q7 q8 q9 q10 q11 q12 wr => ∃ (k : Nat) (D : List PP) (aD : Option Addr) (kD : Nat) (F : Bool), k ≤ ds.length ∧ m = ds.length - k ∧ q11 = .int .i64 k ∧ q9 = .slice aD D.length kD ∧ q10 = .bool F ∧ OPl v0.heap.size wr.heap.size wr aD D ∧ PAll v0.heap.size wr.heap.size wr D ∧ (∀ x ∈ D, ∃ g, x.1.sa = some ⟨g, 0, none⟩) ∧
      Fine (P : Int) c h s (D.map Prod.snd) ∧ Steps (D.map Prod.snd) k ∧ D.length ≤ 25 ^ k ∧ longP P h (ds.drop k) (D.map Prod.snd) = RP ∧ longN P h (ds.drop k) (D.map Prod.snd) + k = RN ∧ (F && fineP P h (ds.drop k) (D.map Prod.snd)) = RF ∧ Below v0.heap.size v0 wr)
    case atStart => exact ⟨0, D0, some ⟨zz, 0, none⟩, 1, true, by omega, by omega, rfl, by rw [HD1.out], rfl, hOP, hPA, hSA, by rw [hDm]; exact HFI.out, by rw [hDm]; exact fun q hq => by simp [startP] at hq; subst hq; rfl, by simpa using hDl, by rw [hDm]; exact HRP.out, by rw [hDm]; simpa using HRN.out, by rw [hDm]; simpa using HRF.out, hbS⟩
    case round =>
      clear hOP hPA hSA hDm hbS hb9 hDl
      obtain ⟨k, D, aD, kD, F, hk, hm, rfl, rfl, rfl, hOP, hPA, hSA, hFi, hSt, hDl, hp, hn, hf, hbel⟩ := hrel
      by_cases hlt : k < ds.length
      · have hlt' : (k : Int) < (ds.length : Int) := by omega
        have hk0 : (0 : Int) ≤ (k : Int) := by omega
        obtain ⟨b3, o3, rfl, hc3⟩ := (r3.below hbel) k hlt
        obtain ⟨d, hdk⟩ : ∃ d, ds.getD k 0 = d := ⟨_, rfl⟩
        rw [hdk] at hc3
        have hdrop : ds.drop k = d :: ds.drop (k + 1) := by
          rw [List.drop_eq_getElem_cons hlt]
          congr 1
          rw [List.getD_eq_getElem?_getD, List.getElem?_eq_getElem hlt] at hdk
          simpa using hdk
        have hdm : inB d 1 s = true := HDS.out d (by rw [← hdk]; exact getD_mem hlt)
        rw [hdrop, longP] at hp
        rw [hdrop, longN] at hn
        rw [hdrop, fineP] at hf
        have hDl2 : D.length ≤ 15625 := Nat.le_trans hDl (Nat.pow_le_pow_right (by omega) (by omega) : 25 ^ k ≤ 25 ^ 3)
        have hnx := fun W (hW : Below wr.heap.size wr W) => l05Next_any P c h s v0.heap.size wr.heap.size aD D.length kD D d W rfl (by omega) (hOP.below hW) (hPA.below hW) hSA (fun x hx => by have := hSt x.2 (List.mem_map.2 ⟨x, hx, rfl⟩); omega) p1 hFi hdm
        have hfi2 := nextP_fine (d := d) hFi hdm
        have hst2 := nextP_steps (P := P) (h := h) (d := d) hSt
        have hlen2 := nextP_length P h d (D.map Prod.snd)
        rw [List.length_map] at hlen2
        obtain ⟨NX, hNX⟩ : ∃ z, nextP P h d (D.map Prod.snd) = z := ⟨_, rfl⟩
        rw [hNX] at hnx hp hn hf hfi2 hst2 hlen2
        have hlen3 : NX.length ≤ 25 ^ (k + 1) := by
          have h1 : D.length * (P + 1) ≤ 25 ^ k * 25 := Nat.mul_le_mul hDl (by omega)
          rw [Nat.pow_succ]
          omega
        have HNX := Lib.hid hnx
        have HP := Lib.hid hp
        have HN := Lib.hid hn
        have HF := Lib.hid hf
        have HFI2 := Lib.hid hfi2
        have HST2 := Lib.hid hst2
        have HLEN3 := Lib.hid hlen3
        clear hnx hp hn hf hfi2 hst2 hlen2 hlen3 hNX hdrop hdk hDl hFi hSt
        obtain ⟨x0, x1, x2, x3, xf, xl⟩ := (BV.below hbel).four
        go_wp2_with fail
        clear x0 x1 x2 x3 xf xl
        refine wp_region_held_drew (S := fun w' => w'.cell? ⟨w.heap.size, 0, none⟩ = some (.int .i64 (P : Int)) ∧ w'.cell? ⟨w.heap.size, 1, none⟩ = some (.int .i64 c) ∧ w'.cell? ⟨w.heap.size, 2, none⟩ = some (.int .i64 h) ∧ w'.cell? ⟨w.heap.size, 3, none⟩ = some (.int .i64 s) ∧ w'.cell? ⟨b3, o3 + k, none⟩ = some (.int .i64 d)) (by kernel_rfl) ⟨(BV.below (chain hbel (Below.refl _ _).drew)).four.1, (BV.below (chain hbel (Below.refl _ _).drew)).four.2.1, (BV.below (chain hbel (Below.refl _ _).drew)).four.2.2.1, (BV.below (chain hbel (Below.refl _ _).drew)).four.2.2.2.1, CellIs.below hc3 (Below.refl _ _).drew⟩ (fun hHeld => ?_)
        refine tk 0 29 ?_
        refine tk 1 30 ?_
        refine tk 2 31 ?_
        refine tk 3 32 ?_
        refine tk 4 33 ?_
        refine tk 5 34 ?_
        refine rdk 6 35 fun K hK => ?_
        go_simp
        refine (HNX.out _ (Below.refl _ _).drew).mono ?_
        rintro e w5 ⟨aN, kN, D2, rfl, hD2, hO2, hP2, hS2, hb5⟩
        have hb5 := from_drew hb5
        (try go_wp2_with fail)
        refine hko hK (Blk.f4 (BV.below (chain hbel hb5)) (CellIs.below hc3 hb5)) fun hHeld => ?_
        clear hK K
        refine tk 7 12 ?_
        refine wpAnyH_done (by kernel_rfl) ?_ _
        clear hHeld
        have hbel5 := chain hbel hb5
        have hsz5 := hb5.size
        have hw0 := hbel.size
        have hD2l : D2.length = NX.length := by rw [← hD2, List.length_map]
        replace hO2 := hO2.mono hw0 (Nat.le_refl w5.heap.size)
        replace hP2 := hP2.mono hw0 (Nat.le_refl w5.heap.size)
        replace hOP := (hOP.below hb5).mono (Nat.le_refl _) hsz5
        replace hPA := (hPA.below hb5).mono (Nat.le_refl _) hsz5
        have HD2 := Lib.hid hD2
        have HD2L := Lib.hid hD2l
        clear hD2 hD2l
        by_cases h0 : D2.length = 0
        · have hNXe : NX = [] := List.eq_nil_of_length_eq_zero (by rw [← HD2L.out]; exact h0)
          have hle0 : decide ((D2.length : Int) ≤ 3000) = true := by simp; omega
          have he0 : ((D2.length : Int) == 0) = true := by rw [beq_iff_eq]; omega
          have q1 := HP.out
          have q2 := HN.out
          have q3 := HF.out
          rw [if_pos hNXe] at q1 q2 q3
          have hFR : F = RF := by rw [← q3, hNXe]; simp
          have Q1 := Lib.hid q1
          have Q2 := Lib.hid q2
          subst hFR
          clear q1 q2 q3 hNXe
          cases F with
          | true =>
            go_wp2
            refine bodyPost_ret (v := .tuple #[.slice aD D.length kD, .int .i64 (k : Int), .bool true]) (by simp [results, Tryz.results54, go_sem]) rfl ?_
            exact ⟨aD, kD, D, by rw [← Q2.out]; simp, Q1.out, hOP.mono (by omega) (Nat.le_refl _), hPA.mono (by omega) (Nat.le_refl _), hSA, hb.trans (hbel5.mono hb.size)⟩
          | false =>
            go_wp2
            refine bodyPost_ret (v := .tuple #[.slice aD D.length kD, .int .i64 (k : Int), .bool false]) (by simp [results, Tryz.results54, go_sem]) rfl ?_
            exact ⟨aD, kD, D, by rw [← Q2.out]; simp, Q1.out, hOP.mono (by omega) (Nat.le_refl _), hPA.mono (by omega) (Nat.le_refl _), hSA, hb.trans (hbel5.mono hb.size)⟩
        · have hNXe : NX ≠ [] := by intro e; rw [e] at HD2L; exact h0 HD2L.out
          have he0 : ((D2.length : Int) == 0) = false := by rw [beq_eq_false_iff_ne]; omega
          have q1 := HP.out
          have q2 := HN.out
          have q3 := HF.out
          rw [if_neg hNXe] at q1 q2 q3
          have Q1 := Lib.hid q1
          have Q2 := Lib.hid q2
          have Q3 := Lib.hid q3
          clear q1 q2 q3 hNXe
          cases F with
          | true =>
            obtain ⟨LE, hLE⟩ : ∃ b, decide ((D2.length : Int) ≤ 3000) = b := ⟨_, rfl⟩
            have hLE2 : decide (NX.length ≤ 3000) = LE := by rw [← hLE, ← HD2L.out, Bool.eq_iff_iff, decide_eq_true_eq, decide_eq_true_eq]; omega
            have HLE2 := Lib.hid hLE2
            clear hLE2
            go_wp2
            go_roundg (ds.length - (k + 1))
            case measure => omega
            case rel => exact ⟨k + 1, D2, aN, kN, LE, by omega, rfl, by go_num, rfl, by first | rfl | (rw [hLE]; done), hO2, hP2, hS2, by rw [HD2.out]; exact HFI2.out, by rw [HD2.out]; exact HST2.out, by rw [HD2L.out]; exact HLEN3.out, by rw [HD2.out]; exact Q1.out, by rw [HD2.out, ← Q2.out]; omega, by rw [HD2.out, ← Q3.out, HLE2.out]; simp, hbel5⟩
          | false =>
            go_wp2
            go_roundg (ds.length - (k + 1))
            case measure => omega
            case rel => exact ⟨k + 1, D2, aN, kN, false, by omega, rfl, by go_num, rfl, rfl, hO2, hP2, hS2, by rw [HD2.out]; exact HFI2.out, by rw [HD2.out]; exact HST2.out, by rw [HD2L.out]; exact HLEN3.out, by rw [HD2.out]; exact Q1.out, by rw [HD2.out, ← Q2.out]; omega, by rw [← Q3.out]; simp, hbel5⟩
      · obtain rfl : k = ds.length := by omega
        rw [List.drop_length, longP] at hp
        rw [List.drop_length, longN] at hn
        rw [List.drop_length, fineP] at hf
        have hFR : F = RF := by rw [← hf]; simp
        have Q1 := Lib.hid hp
        have Q2 := Lib.hid hn
        subst hFR
        clear hp hn hf
        go_wp2
        refine bodyPost_ret (v := .tuple #[.slice aD D.length kD, .int .i64 (ds.length : Int), .bool F]) (by simp [results, Tryz.results54, go_sem]) rfl ?_
        exact ⟨aD, kD, D, by rw [← Q2.out]; simp, Q1.out, hOP.mono (by omega) (Nat.le_refl _), hPA.mono (by omega) (Nat.le_refl _), hSA, hb.trans (hbel.mono hb.size)⟩
  · go_simp
    refine (l02Own_any a1 xs.length c1 xs _ rfl (by omega) (by omega) (r1.below hbS)).mono ?_
    rintro e wA ⟨gA, kA, rfl, hgA, RA, hbA⟩
    have hlA0 := RA.lt
    have hzA := hbA.size
    have hgA2 := hbS.size
    replace hbS := chain hbS hbA
    clear hbA
    (try go_wp2_with fail)
    refine hko hK (Blk.l2 (BB.below hbS)) fun hHeld => ?_
    clear hK K
    refine wpAnyH_ready (rs := [0, 6]) (by kernel_rfl) (by simp) ?_
    refine AllReadyH.cons (o := ⟨some 13, _, _, _, _, _⟩) rfl (fun K hK => ?_) (AllReadyH.cons (o := ⟨some 19, _, _, _, _, _⟩) rfl (fun K hK => ?_) AllReadyH.nil)
    · go_simp
      (try go_wp2_with fail)
      refine hko hK (Blk.l2 (BB.below (hbS.alloc hbS.size _))) fun hHeld => ?_
      clear hK K
      have BE : OSt v0.heap.size (wA.alloc (.cells #[] 55)).heap.size (wA.alloc (.cells #[] 55)) (some ⟨wA.heap.size, 0, none⟩) [] := OSt.newC wA _ hbS.size
      replace RA := RA.alloc (.cells #[] 55)
      have hzE : wA.heap.size ≤ (wA.alloc (.cells #[] 55)).heap.size := by simp
      replace hbS := hbS.alloc hbS.size (.cells #[] 55)
      generalize (wA.alloc (.cells #[] 55)) = wE at *
      refine rdk 6 19 fun K hK => ?_
      go_simp
      refine (l02Own_any a2 ys.length c2 ys _ rfl (by omega) (by omega) (r2.below hbS)).mono ?_
      rintro e wB ⟨gB, kB, rfl, hgB, RB, hbB⟩
      replace BE := (BE.below hbB).mono (Nat.le_refl _) hbB.size
      replace RA := RA.below hbB
      have hzB := hbB.size
      replace hbS := chain hbS hbB
      clear hbB
      (try go_wp2_with fail)
      refine hko hK (Blk.l2 (BB.below hbS)) fun hHeld => ?_
      clear hK K
      refine tk 7 20 ?_
      refine tk 8 21 ?_
      refine rdk 9 22 fun K hK => ?_
      go_simp
      (try go_wp2_with fail)
      refine hko hK (Blk.l2 (BB.below (hbS.alloc hbS.size _))) fun hHeld => ?_
      clear hK K
      have BP := Blk.new wB #[.slice (some ⟨wA.heap.size, 0, none⟩) 0 0, .slice (some ⟨gA, 0, none⟩) xs.length kA, .slice (some ⟨gB, 0, none⟩) ys.length kB] 44
      have hzP : wB.heap.size + 1 ≤ (wB.alloc (.cells #[.slice (some ⟨wA.heap.size, 0, none⟩) 0 0, .slice (some ⟨gA, 0, none⟩) xs.length kA, .slice (some ⟨gB, 0, none⟩) ys.length kB] 44)).heap.size := by simp
      have hlA := RA.lt
      have hlB := RB.lt
      replace BE := BE.alloc (.cells #[.slice (some ⟨wA.heap.size, 0, none⟩) 0 0, .slice (some ⟨gA, 0, none⟩) xs.length kA, .slice (some ⟨gB, 0, none⟩) ys.length kB] 44)
      replace RA := RA.alloc (.cells #[.slice (some ⟨wA.heap.size, 0, none⟩) 0 0, .slice (some ⟨gA, 0, none⟩) xs.length kA, .slice (some ⟨gB, 0, none⟩) ys.length kB] 44)
      replace RB := RB.alloc (.cells #[.slice (some ⟨wA.heap.size, 0, none⟩) 0 0, .slice (some ⟨gA, 0, none⟩) xs.length kA, .slice (some ⟨gB, 0, none⟩) ys.length kB] 44)
      have hzS := hbS.size
      replace hbS := hbS.alloc hbS.size (.cells #[.slice (some ⟨wA.heap.size, 0, none⟩) 0 0, .slice (some ⟨gA, 0, none⟩) xs.length kA, .slice (some ⟨gB, 0, none⟩) ys.length kB] 44)
      generalize (wB.alloc (.cells #[.slice (some ⟨wA.heap.size, 0, none⟩) 0 0, .slice (some ⟨gA, 0, none⟩) xs.length kA, .slice (some ⟨gB, 0, none⟩) ys.length kB] 44)) = wP at *
      generalize hzz : wB.heap.size = zz at *
      have hX : PAt v0.heap.size wP.heap.size wP ((⟨some ⟨wA.heap.size, 0, none⟩, 0, some ⟨gA, 0, none⟩, kA, some ⟨gB, 0, none⟩, kB⟩ : PD), (([] : List Stp), xs, ys)) := ⟨BE.mono (Nat.le_refl _) (by omega), .inr ⟨gA, gB, rfl, rfl, by omega, by omega, by omega, by omega, by omega, RA, RB⟩⟩
      have hOP : OPl v0.heap.size wP.heap.size wP (some ⟨zz, 0, none⟩) [((⟨some ⟨wA.heap.size, 0, none⟩, 0, some ⟨gA, 0, none⟩, kA, some ⟨gB, 0, none⟩, kB⟩ : PD), (([] : List Stp), xs, ys))] := .inr ⟨zz, rfl, by omega, BP.lt, PRow.one (u := ((⟨some ⟨wA.heap.size, 0, none⟩, 0, some ⟨gA, 0, none⟩, kA, some ⟨gB, 0, none⟩, kB⟩ : PD), (([] : List Stp), xs, ys))) BP⟩
      have hPA : PAll v0.heap.size wP.heap.size wP [((⟨some ⟨wA.heap.size, 0, none⟩, 0, some ⟨gA, 0, none⟩, kA, some ⟨gB, 0, none⟩, kB⟩ : PD), (([] : List Stp), xs, ys))] := fun x hx => by simp at hx; subst hx; exact hX
      have hSA : ∀ x ∈ [((⟨some ⟨wA.heap.size, 0, none⟩, 0, some ⟨gA, 0, none⟩, kA, some ⟨gB, 0, none⟩, kB⟩ : PD), (([] : List Stp), xs, ys))], ∃ g, x.1.sa = some ⟨g, 0, none⟩ := fun x hx => by simp at hx; subst hx; exact ⟨_, rfl⟩
      have hDm : [((⟨some ⟨wA.heap.size, 0, none⟩, 0, some ⟨gA, 0, none⟩, kA, some ⟨gB, 0, none⟩, kB⟩ : PD), (([] : List Stp), xs, ys))].map Prod.snd = startP xs ys := rfl
      have hD1 : [((⟨some ⟨wA.heap.size, 0, none⟩, 0, some ⟨gA, 0, none⟩, kA, some ⟨gB, 0, none⟩, kB⟩ : PD), (([] : List Stp), xs, ys))].length = 1 := rfl
      generalize [((⟨some ⟨wA.heap.size, 0, none⟩, 0, some ⟨gA, 0, none⟩, kA, some ⟨gB, 0, none⟩, kB⟩ : PD), (([] : List Stp), xs, ys))] = D0 at *
      have hDl : D0.length ≤ 1 := by omega
      have HD1 := Lib.hid hD1
      clear hX BP BE RA RB hzz hD1
      refine tk 10 9 ?_
      refine wpAnyH_done (by kernel_rfl) ?_ _
      clear hHeld
      have hb9 := hb.trans (hbS.mono hb.size)
      go_wp2_with fail
      go_loopg [6, 7, 8, 9, 10, 11, 12] ds.length (fun m q6 q7 q8 q9 q10 q11 q12 wr => ∃ (k : Nat) (D : List PP) (aD : Option Addr) (kD : Nat) (F : Bool), k ≤ ds.length ∧ m = ds.length - k ∧ q11 = .int .i64 k ∧ q9 = .slice aD D.length kD ∧ q10 = .bool F ∧ OPl v0.heap.size wr.heap.size wr aD D ∧ PAll v0.heap.size wr.heap.size wr D ∧ (∀ x ∈ D, ∃ g, x.1.sa = some ⟨g, 0, none⟩) ∧
        Fine (P : Int) c h s (D.map Prod.snd) ∧ Steps (D.map Prod.snd) k ∧ D.length ≤ 25 ^ k ∧ longP P h (ds.drop k) (D.map Prod.snd) = RP ∧ longN P h (ds.drop k) (D.map Prod.snd) + k = RN ∧ (F && fineP P h (ds.drop k) (D.map Prod.snd)) = RF ∧ Below v0.heap.size v0 wr)
      case atStart => exact ⟨0, D0, some ⟨zz, 0, none⟩, 1, true, by omega, by omega, rfl, by rw [HD1.out], rfl, hOP, hPA, hSA, by rw [hDm]; exact HFI.out, by rw [hDm]; exact fun q hq => by simp [startP] at hq; subst hq; rfl, by simpa using hDl, by rw [hDm]; exact HRP.out, by rw [hDm]; simpa using HRN.out, by rw [hDm]; simpa using HRF.out, hbS⟩
      case round =>
        clear hOP hPA hSA hDm hbS hb9 hDl
        obtain ⟨k, D, aD, kD, F, hk, hm, rfl, rfl, rfl, hOP, hPA, hSA, hFi, hSt, hDl, hp, hn, hf, hbel⟩ := hrel
        by_cases hlt : k < ds.length
        · have hlt' : (k : Int) < (ds.length : Int) := by omega
          have hk0 : (0 : Int) ≤ (k : Int) := by omega
          obtain ⟨b3, o3, rfl, hc3⟩ := (r3.below hbel) k hlt
          obtain ⟨d, hdk⟩ : ∃ d, ds.getD k 0 = d := ⟨_, rfl⟩
          rw [hdk] at hc3
          have hdrop : ds.drop k = d :: ds.drop (k + 1) := by
            rw [List.drop_eq_getElem_cons hlt]
            congr 1
            rw [List.getD_eq_getElem?_getD, List.getElem?_eq_getElem hlt] at hdk
            simpa using hdk
          have hdm : inB d 1 s = true := HDS.out d (by rw [← hdk]; exact getD_mem hlt)
          rw [hdrop, longP] at hp
          rw [hdrop, longN] at hn
          rw [hdrop, fineP] at hf
          have hDl2 : D.length ≤ 15625 := Nat.le_trans hDl (Nat.pow_le_pow_right (by omega) (by omega) : 25 ^ k ≤ 25 ^ 3)
          have hnx := fun W (hW : Below wr.heap.size wr W) => l05Next_any P c h s v0.heap.size wr.heap.size aD D.length kD D d W rfl (by omega) (hOP.below hW) (hPA.below hW) hSA (fun x hx => by have := hSt x.2 (List.mem_map.2 ⟨x, hx, rfl⟩); omega) p1 hFi hdm
          have hfi2 := nextP_fine (d := d) hFi hdm
          have hst2 := nextP_steps (P := P) (h := h) (d := d) hSt
          have hlen2 := nextP_length P h d (D.map Prod.snd)
          rw [List.length_map] at hlen2
          obtain ⟨NX, hNX⟩ : ∃ z, nextP P h d (D.map Prod.snd) = z := ⟨_, rfl⟩
          rw [hNX] at hnx hp hn hf hfi2 hst2 hlen2
          have hlen3 : NX.length ≤ 25 ^ (k + 1) := by
            have h1 : D.length * (P + 1) ≤ 25 ^ k * 25 := Nat.mul_le_mul hDl (by omega)
            rw [Nat.pow_succ]
            omega
          have HNX := Lib.hid hnx
          have HP := Lib.hid hp
          have HN := Lib.hid hn
          have HF := Lib.hid hf
          have HFI2 := Lib.hid hfi2
          have HST2 := Lib.hid hst2
          have HLEN3 := Lib.hid hlen3
          clear hnx hp hn hf hfi2 hst2 hlen2 hlen3 hNX hdrop hdk hDl hFi hSt
          obtain ⟨x0, x1, x2, x3, xf, xl⟩ := (BV.below hbel).four
          go_wp2_with fail
          clear x0 x1 x2 x3 xf xl
          refine wp_region_held_drew (S := fun w' => w'.cell? ⟨w.heap.size, 0, none⟩ = some (.int .i64 (P : Int)) ∧ w'.cell? ⟨w.heap.size, 1, none⟩ = some (.int .i64 c) ∧ w'.cell? ⟨w.heap.size, 2, none⟩ = some (.int .i64 h) ∧ w'.cell? ⟨w.heap.size, 3, none⟩ = some (.int .i64 s) ∧ w'.cell? ⟨b3, o3 + k, none⟩ = some (.int .i64 d)) (by kernel_rfl) ⟨(BV.below (chain hbel (Below.refl _ _).drew)).four.1, (BV.below (chain hbel (Below.refl _ _).drew)).four.2.1, (BV.below (chain hbel (Below.refl _ _).drew)).four.2.2.1, (BV.below (chain hbel (Below.refl _ _).drew)).four.2.2.2.1, CellIs.below hc3 (Below.refl _ _).drew⟩ (fun hHeld => ?_)
          refine tk 0 29 ?_
          refine tk 1 30 ?_
          refine tk 2 31 ?_
          refine tk 3 32 ?_
          refine tk 4 33 ?_
          refine tk 5 34 ?_
          refine rdk 6 35 fun K hK => ?_
          go_simp
          refine (HNX.out _ (Below.refl _ _).drew).mono ?_
          rintro e w5 ⟨aN, kN, D2, rfl, hD2, hO2, hP2, hS2, hb5⟩
          have hb5 := from_drew hb5
          (try go_wp2_with fail)
          refine hko hK (Blk.f4 (BV.below (chain hbel hb5)) (CellIs.below hc3 hb5)) fun hHeld => ?_
          clear hK K
          refine tk 7 12 ?_
          refine wpAnyH_done (by kernel_rfl) ?_ _
          clear hHeld
          have hbel5 := chain hbel hb5
          have hsz5 := hb5.size
          have hw0 := hbel.size
          have hD2l : D2.length = NX.length := by rw [← hD2, List.length_map]
          replace hO2 := hO2.mono hw0 (Nat.le_refl w5.heap.size)
          replace hP2 := hP2.mono hw0 (Nat.le_refl w5.heap.size)
          replace hOP := (hOP.below hb5).mono (Nat.le_refl _) hsz5
          replace hPA := (hPA.below hb5).mono (Nat.le_refl _) hsz5
          have HD2 := Lib.hid hD2
          have HD2L := Lib.hid hD2l
          clear hD2 hD2l
          by_cases h0 : D2.length = 0
          · have hNXe : NX = [] := List.eq_nil_of_length_eq_zero (by rw [← HD2L.out]; exact h0)
            have hle0 : decide ((D2.length : Int) ≤ 3000) = true := by simp; omega
            have he0 : ((D2.length : Int) == 0) = true := by rw [beq_iff_eq]; omega
            have q1 := HP.out
            have q2 := HN.out
            have q3 := HF.out
            rw [if_pos hNXe] at q1 q2 q3
            have hFR : F = RF := by rw [← q3, hNXe]; simp
            have Q1 := Lib.hid q1
            have Q2 := Lib.hid q2
            subst hFR
            clear q1 q2 q3 hNXe
            cases F with
            | true =>
              go_wp2
              refine bodyPost_ret (v := .tuple #[.slice aD D.length kD, .int .i64 (k : Int), .bool true]) (by simp [results, Tryz.results54, go_sem]) rfl ?_
              exact ⟨aD, kD, D, by rw [← Q2.out]; simp, Q1.out, hOP.mono (by omega) (Nat.le_refl _), hPA.mono (by omega) (Nat.le_refl _), hSA, hb.trans (hbel5.mono hb.size)⟩
            | false =>
              go_wp2
              refine bodyPost_ret (v := .tuple #[.slice aD D.length kD, .int .i64 (k : Int), .bool false]) (by simp [results, Tryz.results54, go_sem]) rfl ?_
              exact ⟨aD, kD, D, by rw [← Q2.out]; simp, Q1.out, hOP.mono (by omega) (Nat.le_refl _), hPA.mono (by omega) (Nat.le_refl _), hSA, hb.trans (hbel5.mono hb.size)⟩
          · have hNXe : NX ≠ [] := by intro e; rw [e] at HD2L; exact h0 HD2L.out
            have he0 : ((D2.length : Int) == 0) = false := by rw [beq_eq_false_iff_ne]; omega
            have q1 := HP.out
            have q2 := HN.out
            have q3 := HF.out
            rw [if_neg hNXe] at q1 q2 q3
            have Q1 := Lib.hid q1
            have Q2 := Lib.hid q2
            have Q3 := Lib.hid q3
            clear q1 q2 q3 hNXe
            cases F with
            | true =>
              obtain ⟨LE, hLE⟩ : ∃ b, decide ((D2.length : Int) ≤ 3000) = b := ⟨_, rfl⟩
              have hLE2 : decide (NX.length ≤ 3000) = LE := by rw [← hLE, ← HD2L.out, Bool.eq_iff_iff, decide_eq_true_eq, decide_eq_true_eq]; omega
              have HLE2 := Lib.hid hLE2
              clear hLE2
              go_wp2
              go_roundg (ds.length - (k + 1))
              case measure => omega
              case rel => exact ⟨k + 1, D2, aN, kN, LE, by omega, rfl, by go_num, rfl, by first | rfl | (rw [hLE]; done), hO2, hP2, hS2, by rw [HD2.out]; exact HFI2.out, by rw [HD2.out]; exact HST2.out, by rw [HD2L.out]; exact HLEN3.out, by rw [HD2.out]; exact Q1.out, by rw [HD2.out, ← Q2.out]; omega, by rw [HD2.out, ← Q3.out, HLE2.out]; simp, hbel5⟩
            | false =>
              go_wp2
              go_roundg (ds.length - (k + 1))
              case measure => omega
              case rel => exact ⟨k + 1, D2, aN, kN, false, by omega, rfl, by go_num, rfl, rfl, hO2, hP2, hS2, by rw [HD2.out]; exact HFI2.out, by rw [HD2.out]; exact HST2.out, by rw [HD2L.out]; exact HLEN3.out, by rw [HD2.out]; exact Q1.out, by rw [HD2.out, ← Q2.out]; omega, by rw [← Q3.out]; simp, hbel5⟩
        · obtain rfl : k = ds.length := by omega
          rw [List.drop_length, longP] at hp
          rw [List.drop_length, longN] at hn
          rw [List.drop_length, fineP] at hf
          have hFR : F = RF := by rw [← hf]; simp
          have Q1 := Lib.hid hp
          have Q2 := Lib.hid hn
          subst hFR
          clear hp hn hf
          go_wp2
          refine bodyPost_ret (v := .tuple #[.slice aD D.length kD, .int .i64 (ds.length : Int), .bool F]) (by simp [results, Tryz.results54, go_sem]) rfl ?_
          exact ⟨aD, kD, D, by rw [← Q2.out]; simp, Q1.out, hOP.mono (by omega) (Nat.le_refl _), hPA.mono (by omega) (Nat.le_refl _), hSA, hb.trans (hbel.mono hb.size)⟩
    · go_simp
      refine (l02Own_any a2 ys.length c2 ys _ rfl (by omega) (by omega) (r2.below hbS)).mono ?_
      rintro e wB ⟨gB, kB, rfl, hgB, RB, hbB⟩
      replace RA := RA.below hbB
      have hzB := hbB.size
      replace hbS := chain hbS hbB
      clear hbB
      (try go_wp2_with fail)
      refine hko hK (Blk.l2 (BB.below hbS)) fun hHeld => ?_
      clear hK K
      refine tk 7 20 ?_
      refine rdk 0 13 fun K hK => ?_
      go_simp
      (try go_wp2_with fail)
      refine hko hK (Blk.l2 (BB.below (hbS.alloc hbS.size _))) fun hHeld => ?_
      clear hK K
      have BE : OSt v0.heap.size (wB.alloc (.cells #[] 55)).heap.size (wB.alloc (.cells #[] 55)) (some ⟨wB.heap.size, 0, none⟩) [] := OSt.newC wB _ hbS.size
      replace RA := RA.alloc (.cells #[] 55)
      replace RB := RB.alloc (.cells #[] 55)
      have hzE : wB.heap.size ≤ (wB.alloc (.cells #[] 55)).heap.size := by simp
      replace hbS := hbS.alloc hbS.size (.cells #[] 55)
      generalize (wB.alloc (.cells #[] 55)) = wE at *
      refine tk 8 21 ?_
      refine rdk 9 22 fun K hK => ?_
      go_simp
      (try go_wp2_with fail)
      refine hko hK (Blk.l2 (BB.below (hbS.alloc hbS.size _))) fun hHeld => ?_
      clear hK K
      have BP := Blk.new wE #[.slice (some ⟨wB.heap.size, 0, none⟩) 0 0, .slice (some ⟨gA, 0, none⟩) xs.length kA, .slice (some ⟨gB, 0, none⟩) ys.length kB] 44
      have hzP : wE.heap.size + 1 ≤ (wE.alloc (.cells #[.slice (some ⟨wB.heap.size, 0, none⟩) 0 0, .slice (some ⟨gA, 0, none⟩) xs.length kA, .slice (some ⟨gB, 0, none⟩) ys.length kB] 44)).heap.size := by simp
      have hlA := RA.lt
      have hlB := RB.lt
      replace BE := BE.alloc (.cells #[.slice (some ⟨wB.heap.size, 0, none⟩) 0 0, .slice (some ⟨gA, 0, none⟩) xs.length kA, .slice (some ⟨gB, 0, none⟩) ys.length kB] 44)
      replace RA := RA.alloc (.cells #[.slice (some ⟨wB.heap.size, 0, none⟩) 0 0, .slice (some ⟨gA, 0, none⟩) xs.length kA, .slice (some ⟨gB, 0, none⟩) ys.length kB] 44)
      replace RB := RB.alloc (.cells #[.slice (some ⟨wB.heap.size, 0, none⟩) 0 0, .slice (some ⟨gA, 0, none⟩) xs.length kA, .slice (some ⟨gB, 0, none⟩) ys.length kB] 44)
      have hzS := hbS.size
      replace hbS := hbS.alloc hbS.size (.cells #[.slice (some ⟨wB.heap.size, 0, none⟩) 0 0, .slice (some ⟨gA, 0, none⟩) xs.length kA, .slice (some ⟨gB, 0, none⟩) ys.length kB] 44)
      generalize (wE.alloc (.cells #[.slice (some ⟨wB.heap.size, 0, none⟩) 0 0, .slice (some ⟨gA, 0, none⟩) xs.length kA, .slice (some ⟨gB, 0, none⟩) ys.length kB] 44)) = wP at *
      generalize hzz : wE.heap.size = zz at *
      have hX : PAt v0.heap.size wP.heap.size wP ((⟨some ⟨wB.heap.size, 0, none⟩, 0, some ⟨gA, 0, none⟩, kA, some ⟨gB, 0, none⟩, kB⟩ : PD), (([] : List Stp), xs, ys)) := ⟨BE.mono (Nat.le_refl _) (by omega), .inr ⟨gA, gB, rfl, rfl, by omega, by omega, by omega, by omega, by omega, RA, RB⟩⟩
      have hOP : OPl v0.heap.size wP.heap.size wP (some ⟨zz, 0, none⟩) [((⟨some ⟨wB.heap.size, 0, none⟩, 0, some ⟨gA, 0, none⟩, kA, some ⟨gB, 0, none⟩, kB⟩ : PD), (([] : List Stp), xs, ys))] := .inr ⟨zz, rfl, by omega, BP.lt, PRow.one (u := ((⟨some ⟨wB.heap.size, 0, none⟩, 0, some ⟨gA, 0, none⟩, kA, some ⟨gB, 0, none⟩, kB⟩ : PD), (([] : List Stp), xs, ys))) BP⟩
      have hPA : PAll v0.heap.size wP.heap.size wP [((⟨some ⟨wB.heap.size, 0, none⟩, 0, some ⟨gA, 0, none⟩, kA, some ⟨gB, 0, none⟩, kB⟩ : PD), (([] : List Stp), xs, ys))] := fun x hx => by simp at hx; subst hx; exact hX
      have hSA : ∀ x ∈ [((⟨some ⟨wB.heap.size, 0, none⟩, 0, some ⟨gA, 0, none⟩, kA, some ⟨gB, 0, none⟩, kB⟩ : PD), (([] : List Stp), xs, ys))], ∃ g, x.1.sa = some ⟨g, 0, none⟩ := fun x hx => by simp at hx; subst hx; exact ⟨_, rfl⟩
      have hDm : [((⟨some ⟨wB.heap.size, 0, none⟩, 0, some ⟨gA, 0, none⟩, kA, some ⟨gB, 0, none⟩, kB⟩ : PD), (([] : List Stp), xs, ys))].map Prod.snd = startP xs ys := rfl
      have hD1 : [((⟨some ⟨wB.heap.size, 0, none⟩, 0, some ⟨gA, 0, none⟩, kA, some ⟨gB, 0, none⟩, kB⟩ : PD), (([] : List Stp), xs, ys))].length = 1 := rfl
      generalize [((⟨some ⟨wB.heap.size, 0, none⟩, 0, some ⟨gA, 0, none⟩, kA, some ⟨gB, 0, none⟩, kB⟩ : PD), (([] : List Stp), xs, ys))] = D0 at *
      have hDl : D0.length ≤ 1 := by omega
      have HD1 := Lib.hid hD1
      clear hX BP BE RA RB hzz hD1
      refine tk 10 9 ?_
      refine wpAnyH_done (by kernel_rfl) ?_ _
      clear hHeld
      have hb9 := hb.trans (hbS.mono hb.size)
      go_wp2_with fail
      go_loopg [6, 7, 8, 9, 10, 11, 12] ds.length (fun m q6 q7 q8 q9 q10 q11 q12 wr => ∃ (k : Nat) (D : List PP) (aD : Option Addr) (kD : Nat) (F : Bool), k ≤ ds.length ∧ m = ds.length - k ∧ q11 = .int .i64 k ∧ q9 = .slice aD D.length kD ∧ q10 = .bool F ∧ OPl v0.heap.size wr.heap.size wr aD D ∧ PAll v0.heap.size wr.heap.size wr D ∧ (∀ x ∈ D, ∃ g, x.1.sa = some ⟨g, 0, none⟩) ∧
        Fine (P : Int) c h s (D.map Prod.snd) ∧ Steps (D.map Prod.snd) k ∧ D.length ≤ 25 ^ k ∧ longP P h (ds.drop k) (D.map Prod.snd) = RP ∧ longN P h (ds.drop k) (D.map Prod.snd) + k = RN ∧ (F && fineP P h (ds.drop k) (D.map Prod.snd)) = RF ∧ Below v0.heap.size v0 wr)
      case atStart => exact ⟨0, D0, some ⟨zz, 0, none⟩, 1, true, by omega, by omega, rfl, by rw [HD1.out], rfl, hOP, hPA, hSA, by rw [hDm]; exact HFI.out, by rw [hDm]; exact fun q hq => by simp [startP] at hq; subst hq; rfl, by simpa using hDl, by rw [hDm]; exact HRP.out, by rw [hDm]; simpa using HRN.out, by rw [hDm]; simpa using HRF.out, hbS⟩
      case round =>
        clear hOP hPA hSA hDm hbS hb9 hDl
        obtain ⟨k, D, aD, kD, F, hk, hm, rfl, rfl, rfl, hOP, hPA, hSA, hFi, hSt, hDl, hp, hn, hf, hbel⟩ := hrel
        by_cases hlt : k < ds.length
        · have hlt' : (k : Int) < (ds.length : Int) := by omega
          have hk0 : (0 : Int) ≤ (k : Int) := by omega
          obtain ⟨b3, o3, rfl, hc3⟩ := (r3.below hbel) k hlt
          obtain ⟨d, hdk⟩ : ∃ d, ds.getD k 0 = d := ⟨_, rfl⟩
          rw [hdk] at hc3
          have hdrop : ds.drop k = d :: ds.drop (k + 1) := by
            rw [List.drop_eq_getElem_cons hlt]
            congr 1
            rw [List.getD_eq_getElem?_getD, List.getElem?_eq_getElem hlt] at hdk
            simpa using hdk
          have hdm : inB d 1 s = true := HDS.out d (by rw [← hdk]; exact getD_mem hlt)
          rw [hdrop, longP] at hp
          rw [hdrop, longN] at hn
          rw [hdrop, fineP] at hf
          have hDl2 : D.length ≤ 15625 := Nat.le_trans hDl (Nat.pow_le_pow_right (by omega) (by omega) : 25 ^ k ≤ 25 ^ 3)
          have hnx := fun W (hW : Below wr.heap.size wr W) => l05Next_any P c h s v0.heap.size wr.heap.size aD D.length kD D d W rfl (by omega) (hOP.below hW) (hPA.below hW) hSA (fun x hx => by have := hSt x.2 (List.mem_map.2 ⟨x, hx, rfl⟩); omega) p1 hFi hdm
          have hfi2 := nextP_fine (d := d) hFi hdm
          have hst2 := nextP_steps (P := P) (h := h) (d := d) hSt
          have hlen2 := nextP_length P h d (D.map Prod.snd)
          rw [List.length_map] at hlen2
          obtain ⟨NX, hNX⟩ : ∃ z, nextP P h d (D.map Prod.snd) = z := ⟨_, rfl⟩
          rw [hNX] at hnx hp hn hf hfi2 hst2 hlen2
          have hlen3 : NX.length ≤ 25 ^ (k + 1) := by
            have h1 : D.length * (P + 1) ≤ 25 ^ k * 25 := Nat.mul_le_mul hDl (by omega)
            rw [Nat.pow_succ]
            omega
          have HNX := Lib.hid hnx
          have HP := Lib.hid hp
          have HN := Lib.hid hn
          have HF := Lib.hid hf
          have HFI2 := Lib.hid hfi2
          have HST2 := Lib.hid hst2
          have HLEN3 := Lib.hid hlen3
          clear hnx hp hn hf hfi2 hst2 hlen2 hlen3 hNX hdrop hdk hDl hFi hSt
          obtain ⟨x0, x1, x2, x3, xf, xl⟩ := (BV.below hbel).four
          go_wp2_with fail
          clear x0 x1 x2 x3 xf xl
          refine wp_region_held_drew (S := fun w' => w'.cell? ⟨w.heap.size, 0, none⟩ = some (.int .i64 (P : Int)) ∧ w'.cell? ⟨w.heap.size, 1, none⟩ = some (.int .i64 c) ∧ w'.cell? ⟨w.heap.size, 2, none⟩ = some (.int .i64 h) ∧ w'.cell? ⟨w.heap.size, 3, none⟩ = some (.int .i64 s) ∧ w'.cell? ⟨b3, o3 + k, none⟩ = some (.int .i64 d)) (by kernel_rfl) ⟨(BV.below (chain hbel (Below.refl _ _).drew)).four.1, (BV.below (chain hbel (Below.refl _ _).drew)).four.2.1, (BV.below (chain hbel (Below.refl _ _).drew)).four.2.2.1, (BV.below (chain hbel (Below.refl _ _).drew)).four.2.2.2.1, CellIs.below hc3 (Below.refl _ _).drew⟩ (fun hHeld => ?_)
          refine tk 0 29 ?_
          refine tk 1 30 ?_
          refine tk 2 31 ?_
          refine tk 3 32 ?_
          refine tk 4 33 ?_
          refine tk 5 34 ?_
          refine rdk 6 35 fun K hK => ?_
          go_simp
          refine (HNX.out _ (Below.refl _ _).drew).mono ?_
          rintro e w5 ⟨aN, kN, D2, rfl, hD2, hO2, hP2, hS2, hb5⟩
          have hb5 := from_drew hb5
          (try go_wp2_with fail)
          refine hko hK (Blk.f4 (BV.below (chain hbel hb5)) (CellIs.below hc3 hb5)) fun hHeld => ?_
          clear hK K
          refine tk 7 12 ?_
          refine wpAnyH_done (by kernel_rfl) ?_ _
          clear hHeld
          have hbel5 := chain hbel hb5
          have hsz5 := hb5.size
          have hw0 := hbel.size
          have hD2l : D2.length = NX.length := by rw [← hD2, List.length_map]
          replace hO2 := hO2.mono hw0 (Nat.le_refl w5.heap.size)
          replace hP2 := hP2.mono hw0 (Nat.le_refl w5.heap.size)
          replace hOP := (hOP.below hb5).mono (Nat.le_refl _) hsz5
          replace hPA := (hPA.below hb5).mono (Nat.le_refl _) hsz5
          have HD2 := Lib.hid hD2
          have HD2L := Lib.hid hD2l
          clear hD2 hD2l
          by_cases h0 : D2.length = 0
          · have hNXe : NX = [] := List.eq_nil_of_length_eq_zero (by rw [← HD2L.out]; exact h0)
            have hle0 : decide ((D2.length : Int) ≤ 3000) = true := by simp; omega
            have he0 : ((D2.length : Int) == 0) = true := by rw [beq_iff_eq]; omega
            have q1 := HP.out
            have q2 := HN.out
            have q3 := HF.out
            rw [if_pos hNXe] at q1 q2 q3
            have hFR : F = RF := by rw [← q3, hNXe]; simp
            have Q1 := Lib.hid q1
            have Q2 := Lib.hid q2
            subst hFR
            clear q1 q2 q3 hNXe
            cases F with
            | true =>
              go_wp2
              refine bodyPost_ret (v := .tuple #[.slice aD D.length kD, .int .i64 (k : Int), .bool true]) (by simp [results, Tryz.results54, go_sem]) rfl ?_
              exact ⟨aD, kD, D, by rw [← Q2.out]; simp, Q1.out, hOP.mono (by omega) (Nat.le_refl _), hPA.mono (by omega) (Nat.le_refl _), hSA, hb.trans (hbel5.mono hb.size)⟩
            | false =>
              go_wp2
              refine bodyPost_ret (v := .tuple #[.slice aD D.length kD, .int .i64 (k : Int), .bool false]) (by simp [results, Tryz.results54, go_sem]) rfl ?_
              exact ⟨aD, kD, D, by rw [← Q2.out]; simp, Q1.out, hOP.mono (by omega) (Nat.le_refl _), hPA.mono (by omega) (Nat.le_refl _), hSA, hb.trans (hbel5.mono hb.size)⟩
          · have hNXe : NX ≠ [] := by intro e; rw [e] at HD2L; exact h0 HD2L.out
            have he0 : ((D2.length : Int) == 0) = false := by rw [beq_eq_false_iff_ne]; omega
            have q1 := HP.out
            have q2 := HN.out
            have q3 := HF.out
            rw [if_neg hNXe] at q1 q2 q3
            have Q1 := Lib.hid q1
            have Q2 := Lib.hid q2
            have Q3 := Lib.hid q3
            clear q1 q2 q3 hNXe
            cases F with
            | true =>
              obtain ⟨LE, hLE⟩ : ∃ b, decide ((D2.length : Int) ≤ 3000) = b := ⟨_, rfl⟩
              have hLE2 : decide (NX.length ≤ 3000) = LE := by rw [← hLE, ← HD2L.out, Bool.eq_iff_iff, decide_eq_true_eq, decide_eq_true_eq]; omega
              have HLE2 := Lib.hid hLE2
              clear hLE2
              go_wp2
              go_roundg (ds.length - (k + 1))
              case measure => omega
              case rel => exact ⟨k + 1, D2, aN, kN, LE, by omega, rfl, by go_num, rfl, by first | rfl | (rw [hLE]; done), hO2, hP2, hS2, by rw [HD2.out]; exact HFI2.out, by rw [HD2.out]; exact HST2.out, by rw [HD2L.out]; exact HLEN3.out, by rw [HD2.out]; exact Q1.out, by rw [HD2.out, ← Q2.out]; omega, by rw [HD2.out, ← Q3.out, HLE2.out]; simp, hbel5⟩
            | false =>
              go_wp2
              go_roundg (ds.length - (k + 1))
              case measure => omega
              case rel => exact ⟨k + 1, D2, aN, kN, false, by omega, rfl, by go_num, rfl, rfl, hO2, hP2, hS2, by rw [HD2.out]; exact HFI2.out, by rw [HD2.out]; exact HST2.out, by rw [HD2L.out]; exact HLEN3.out, by rw [HD2.out]; exact Q1.out, by rw [HD2.out, ← Q2.out]; omega, by rw [← Q3.out]; simp, hbel5⟩
        · obtain rfl : k = ds.length := by omega
          rw [List.drop_length, longP] at hp
          rw [List.drop_length, longN] at hn
          rw [List.drop_length, fineP] at hf
          have hFR : F = RF := by rw [← hf]; simp
          have Q1 := Lib.hid hp
          have Q2 := Lib.hid hn
          subst hFR
          clear hp hn hf
          go_wp2
          refine bodyPost_ret (v := .tuple #[.slice aD D.length kD, .int .i64 (ds.length : Int), .bool F]) (by simp [results, Tryz.results54, go_sem]) rfl ?_
          exact ⟨aD, kD, D, by rw [← Q2.out]; simp, Q1.out, hOP.mono (by omega) (Nat.le_refl _), hPA.mono (by omega) (Nat.le_refl _), hSA, hb.trans (hbel.mono hb.size)⟩
def OrdersGot (os : List (List Int)) (w : World) (e : Ending) (w' : World) : Prop :=
  ∃ g, e = .returned (.slice (some ⟨g, 0, none⟩) os.length os.length) ∧ (∀ j o, os[j]? = some o → ∃ gj, w'.cell? ⟨g, j, none⟩ = some (.slice (some ⟨gj, 0, none⟩) o.length o.length) ∧ Row w' gj o) ∧ Below w.heap.size w w'
theorem Row.of_blk {w : World} {g : Nat} {vs : Array Value} {xs : List Int} (h : Blk w g vs 2) (e : vs.toList = ints xs) : Row w g xs := by
  have hl : vs.size = xs.length := by rw [← Array.length_toList, e]; simp [ints]
  exact ⟨vs, h, by omega, by rw [e]; exact List.take_of_length_le (by simp [ints])⟩
set_option maxHeartbeats 1000000 in
theorem l05Orders_any (ra rb : Int) (w : World) :
    Calls Tryz.prog 53 #[.agg #[.int .i64 ra, .int .i64 rb]] w (OrdersGot (ordersP ra rb) w) := by
  have BR := Blk.new w #[.int .i64 ra, .int .i64 rb] 30
  have hb : Below w.heap.size w (w.alloc (.cells #[.int .i64 ra, .int .i64 rb] 30)) := (Below.refl _ _).alloc (Nat.le_refl _) _
  have hz : (w.alloc (.cells #[.int .i64 ra, .int .i64 rb] 30)).heap.size = w.heap.size + 1 := by simp
  obtain ⟨x0, x1, xf, xl⟩ := BR.two
  by_cases e : ra = rb
  · subst e
    have e1 : ordersP ra ra = [[ra, ra, ra, ra]] := by simp [ordersP]
    rw [e1]
    go_enter Tryz.func53, Tryz.ntmps53
    go_wp2
    refine bodyPost_ret (v := .slice (some ⟨w.heap.size + 1 + 1, 0, none⟩) 1 1) (by simp [results, Tryz.results53, go_sem]) rfl ?_
    generalize (w.alloc (.cells #[.int .i64 ra, .int .i64 ra] 30)) = v0 at *
    have B1 := Blk.new v0 #[.int .i64 ra, .int .i64 ra, .int .i64 ra, .int .i64 ra] 2
    have B2 := Blk.new (v0.alloc (.cells #[.int .i64 ra, .int .i64 ra, .int .i64 ra, .int .i64 ra] 2)) #[.slice (some ⟨w.heap.size + 1, 0, none⟩) 4 4] 26
    rw [World.size_alloc, hz] at B2
    rw [hz] at B1
    refine ⟨_, rfl, fun j o hj => ?_, (hb.alloc hb.size _).alloc (Nat.le_trans hb.size (by simp)) _⟩
    cases j with
    | zero =>
      simp at hj
      subst hj
      exact ⟨w.heap.size + 1, by simpa using B2.cell 0, Row.of_blk (B1.alloc _) rfl⟩
    | succ j => simp at hj
  · have f0 : (ra == rb) = false := by rw [beq_eq_false_iff_ne]; exact e
    have e1 : ordersP ra rb = [[ra, rb], [rb, ra]] := by simp [ordersP, e]
    rw [e1]
    go_enter Tryz.func53, Tryz.ntmps53
    go_wp2
    refine bodyPost_ret (v := .slice (some ⟨w.heap.size + 1 + 1 + 1, 0, none⟩) 2 2) (by simp [results, Tryz.results53, go_sem]) rfl ?_
    generalize (w.alloc (.cells #[.int .i64 ra, .int .i64 rb] 30)) = v0 at *
    have B1 := Blk.new v0 #[.int .i64 ra, .int .i64 rb] 2
    have B2 := Blk.new (v0.alloc (.cells #[.int .i64 ra, .int .i64 rb] 2)) #[.int .i64 rb, .int .i64 ra] 2
    have B3 := Blk.new ((v0.alloc (.cells #[.int .i64 ra, .int .i64 rb] 2)).alloc (.cells #[.int .i64 rb, .int .i64 ra] 2)) #[.slice (some ⟨w.heap.size + 1, 0, none⟩) 2 2, .slice (some ⟨w.heap.size + 1 + 1, 0, none⟩) 2 2] 26
    rw [World.size_alloc, World.size_alloc, hz] at B3
    rw [World.size_alloc, hz] at B2
    rw [hz] at B1
    refine ⟨_, rfl, fun j o hj => ?_, ((hb.alloc hb.size _).alloc (Nat.le_trans hb.size (by simp)) _).alloc (Nat.le_trans hb.size (by simp; omega)) _⟩
    rcases (by omega : j = 0 ∨ j = 1 ∨ 2 ≤ j) with rfl | rfl | h2
    · simp at hj
      subst hj
      exact ⟨w.heap.size + 1, by simpa using B3.cell 0, Row.of_blk ((B1.alloc _).alloc _) rfl⟩
    · simp at hj
      subst hj
      exact ⟨w.heap.size + 1 + 1, by simpa using B3.cell 1, Row.of_blk (B2.alloc _) rfl⟩
    · obtain ⟨j, rfl⟩ := Nat.exists_eq_add_of_le h2
      rw [Nat.add_comm] at hj
      simp at hj
theorem ordersP_mem {ra rb s : Int} {j : Nat} {o : List Int} (ha : inB ra 1 s = true) (hb : inB rb 1 s = true) (h : (ordersP ra rb)[j]? = some o) : o.length ≤ 4 ∧ ∀ d ∈ o, inB d 1 s = true := by
  have hm := List.mem_of_getElem? h
  unfold ordersP at hm
  split at hm
  · simp at hm
    subst hm
    exact ⟨by simp, fun d hd => by simp at hd; rw [hd]; exact ha⟩
  · simp at hm
    rcases hm with rfl | rfl
    · exact ⟨by simp, fun d hd => by simp at hd; rcases hd with rfl | rfl <;> assumption⟩
    · exact ⟨by simp, fun d hd => by simp at hd; rcases hd with rfl | rfl <;> assumption⟩
theorem ordersP_length (ra rb : Int) : (ordersP ra rb).length ≤ 2 := by
  unfold ordersP
  split <;> simp
def usedTo (P : Nat) (h : Int) (xs ys : List Int) (os : List (List Int)) (k : Nat) : Nat := ((os.take k).map (fun o => longN P h o (startP xs ys))).foldl max 0
theorem usedTo_succ (P : Nat) (h : Int) (xs ys : List Int) (os : List (List Int)) (k : Nat) (o : List Int) (ho : os[k]? = some o) : usedTo P h xs ys os (k + 1) = max (usedTo P h xs ys os k) (longN P h o (startP xs ys)) := by
  unfold usedTo
  rw [List.take_add_one, ho]
  simp
theorem usedTo_all (P : Nat) (h : Int) (xs ys : List Int) (ra rb : Int) : usedTo P h xs ys (ordersP ra rb) (ordersP ra rb).length = usedP P h xs ys ra rb := by
  unfold usedTo usedP
  rw [List.take_length]
theorem usedTo_le (P : Nat) (h : Int) (xs ys : List Int) (ra rb : Int) (k : Nat) : usedTo P h xs ys (ordersP ra rb) k ≤ 4 := by
  have h1 : ∀ (l : List Nat) (m : Nat), m ≤ 4 → (∀ x ∈ l, x ≤ 4) → l.foldl max m ≤ 4 := by
    intro l
    induction l with
    | nil => intro m hm _; exact hm
    | cons a l ih => intro m hm hl; exact ih _ (by have := hl a (by simp); omega) (fun x hx => hl x (by simp [hx]))
  refine h1 _ 0 (by omega) (fun x hx => ?_)
  obtain ⟨o, ho, rfl⟩ := List.mem_map.1 hx
  have hm := List.mem_of_mem_take ho
  have hl : o.length ≤ 4 := by
    unfold ordersP at hm
    split at hm
    · simp at hm; subst hm; simp
    · simp at hm; rcases hm with rfl | rfl <;> simp
  exact Nat.le_trans (longN_le P h o _) hl
set_option maxRecDepth 8000 in
set_option maxHeartbeats 1000000 in
theorem l05Used_any (P : Nat) (c h s ra rb : Int) (a1 a2 : Option Addr) (n1 n2 c1 c2 : Nat) (xs ys : List Int) (w : World) (h1 : xs.length = n1) (h2 : ys.length = n2) (r1 : IRow w a1 xs) (r2 : IRow w a2 ys) (g : isB (P : Int) c h s xs ys = true) (ha : inB ra 1 s = true) (hbb : inB rb 1 s = true) :
    Calls Tryz.prog 35 #[.agg #[.int .i64 (P : Int), .int .i64 c, .int .i64 h, .int .i64 s], .agg #[.slice a1 n1 c1, .slice a2 n2 c2], .agg #[.int .i64 ra, .int .i64 rb]] w fun e w' => e = .returned (.int .i64 ((usedP P h xs ys ra rb : Nat) : Int)) ∧ Below w.heap.size w w' := by
  obtain ⟨BV, BB, BR, hb, hz⟩ := three_new w #[.int .i64 (P : Int), .int .i64 c, .int .i64 h, .int .i64 s] #[.slice a1 n1 c1, .slice a2 n2 c2] #[.int .i64 ra, .int .i64 rb] 25 28 30
  have hz1 : w.heap.size + 1 + 1 + 1 ≤ (((w.alloc (.cells #[.int .i64 (P : Int), .int .i64 c, .int .i64 h, .int .i64 s] 25)).alloc (.cells #[.slice a1 n1 c1, .slice a2 n2 c2] 28)).alloc (.cells #[.int .i64 ra, .int .i64 rb] 30)).heap.size := by rw [hz]; omega
  clear hz
  replace r1 := r1.below hb
  replace r2 := r2.below hb
  have HG := Lib.hid g
  have HOM := Lib.hid (fun j o ho => ordersP_mem (j := j) (o := o) ha hbb ho)
  have HOL := ordersP_length ra rb
  have hall := usedTo_all P h xs ys ra rb
  have hule := usedTo_le P h xs ys ra rb
  have HUS := Lib.hid (fun k o ho => usedTo_succ P h xs ys (ordersP ra rb) k o ho)
  have hor := fun W => l05Orders_any ra rb W
  obtain ⟨OS, hOS⟩ : ∃ z, ordersP ra rb = z := ⟨_, rfl⟩
  rw [hOS] at hor HOM HOL hall hule HUS
  obtain ⟨U, hU⟩ : ∃ z, usedP P h xs ys ra rb = z := ⟨_, rfl⟩
  rw [hU] at hall ⊢
  have HALL := Lib.hid hall
  have HULE := Lib.hid hule
  have HOR := Lib.hid hor
  clear hOS hU hall hule hor g ha hbb
  obtain ⟨x0, x1, x2, x3, xf, xl⟩ := BV.four
  obtain ⟨y0, y1, yf, yl⟩ := BB.two
  obtain ⟨z0, z1, zf, zl⟩ := BR.two
  go_enter Tryz.func35, Tryz.ntmps35
  go_wp2_with fail
  clear x0 x1 x2 x3 xf xl y0 y1 yf yl z0 z1 zf zl
  generalize (((w.alloc (.cells #[.int .i64 (P : Int), .int .i64 c, .int .i64 h, .int .i64 s] 25)).alloc (.cells #[.slice a1 n1 c1, .slice a2 n2 c2] 28)).alloc (.cells #[.int .i64 ra, .int .i64 rb] 30)) = v0 at *
  refine (HOR.out _).mono ?_
  rintro e w1 ⟨gO, rfl, hcells, hb1⟩
  have HC := Lib.hid hcells
  clear hcells
  go_wp2_with fail
  go_loopg [7, 9, 10, 11, 12] OS.length (fun m q7 q9 q10 q11 q12 wr => ∃ i : Nat, i ≤ OS.length ∧ m = OS.length - i ∧ q9 = .int .i64 i ∧ q7 = .int .i64 ((usedTo P h xs ys OS i : Nat) : Int) ∧ Below w1.heap.size w1 wr)
  case atStart => exact ⟨0, by omega, by omega, rfl, by simp [usedTo], Below.refl _ _⟩
  case round =>
    obtain ⟨i, hi, hm, rfl, rfl, hbq⟩ := hrel
    have hbel := chain hb1 hbq
    have hul := HULE.out i
    by_cases hlt : i < OS.length
    · have hlt' : (i : Int) < (OS.length : Int) := by omega
      have hi0 : (0 : Int) ≤ (i : Int) := by omega
      obtain ⟨od, hod⟩ : ∃ o, OS[i]? = some o := ⟨_, List.getElem?_eq_getElem hlt⟩
      obtain ⟨gj, hcj, hRj⟩ := HC.out i od hod
      obtain ⟨ho4, hodd⟩ := HOM.out i od hod
      have hus := HUS.out i od hod
      have hNle := longN_le P h od (startP xs ys)
      have hlg := fun W (hW : Below wr.heap.size wr W) => l05Longest_any P c h s a1 a2 (some ⟨gj, 0, none⟩) n1 n2 od.length c1 c2 od.length xs ys od W h1 h2 rfl ho4 (r1.below (chain hbel hW)) (r2.below (chain hbel hW)) (hRj.below (chain hbq hW)).irow HG.out hodd
      obtain ⟨NN, hNN⟩ : ∃ z, longN P h od (startP xs ys) = z := ⟨_, rfl⟩
      obtain ⟨FF, hFF⟩ : ∃ z, fineP P h od (startP xs ys) = z := ⟨_, rfl⟩
      obtain ⟨UU, hUU⟩ : ∃ z, usedTo P h xs ys OS i = z := ⟨_, rfl⟩
      rw [hNN, hFF] at hlg
      rw [hNN, hUU] at hus
      rw [hNN] at hNle
      rw [hUU] at hul ⊢
      have HLG := Lib.hid hlg
      have HUS2 := Lib.hid hus
      obtain ⟨MM, hMM⟩ : ∃ z : Int, max (UU : Int) (NN : Int) = z := ⟨_, rfl⟩
      have hmx : MM = ((max UU NN : Nat) : Int) := by omega
      have HMX := Lib.hid hmx
      clear hmx
      clear hlg hus hNN hFF hUU hRj hodd hod
      obtain ⟨x0, x1, x2, x3, xf, xl⟩ := (BV.below hbel).four
      obtain ⟨y0, y1, yf, yl⟩ := (BB.below hbel).two
      go_wp2_with fail
      clear x0 x1 x2 x3 xf xl y0 y1 yf yl
      refine wp_region_held_drew (S := fun w' => w'.cell? ⟨w.heap.size, 0, none⟩ = some (.int .i64 (P : Int)) ∧ w'.cell? ⟨w.heap.size, 1, none⟩ = some (.int .i64 c) ∧ w'.cell? ⟨w.heap.size, 2, none⟩ = some (.int .i64 h) ∧ w'.cell? ⟨w.heap.size, 3, none⟩ = some (.int .i64 s) ∧ w'.cell? ⟨w.heap.size + 1, 0, none⟩ = some (.slice a1 n1 c1) ∧ w'.cell? ⟨w.heap.size + 1, 1, none⟩ = some (.slice a2 n2 c2) ∧ w'.cell? ⟨gO, i, none⟩ = some (.slice (some ⟨gj, 0, none⟩) od.length od.length)) (by kernel_rfl) ⟨(BV.below (chain hbel (Below.refl _ _).drew)).four.1, (BV.below (chain hbel (Below.refl _ _).drew)).four.2.1, (BV.below (chain hbel (Below.refl _ _).drew)).four.2.2.1, (BV.below (chain hbel (Below.refl _ _).drew)).four.2.2.2.1, (BB.below (chain hbel (Below.refl _ _).drew)).two.1, (BB.below (chain hbel (Below.refl _ _).drew)).two.2.1, CellIs.below hcj (chain hbq (Below.refl _ _).drew)⟩ (fun hHeld => ?_)
      refine tk 0 22 ?_
      refine tk 1 23 ?_
      refine tk 2 24 ?_
      refine tk 3 25 ?_
      refine tk 4 26 ?_
      refine tk 5 27 ?_
      refine rdk 6 28 fun K hK => ?_
      go_simp
      refine (HLG.out _ (Below.refl _ _).drew).mono ?_
      rintro e w5 ⟨aL, kL, LL, rfl, -, -, -, -, hb5⟩
      have hb5 := from_drew hb5
      (try go_wp2_with fail)
      refine hko hK (Blk.f4 (BV.below (chain hbel hb5)) (Blk.f2 (BB.below (chain hbel hb5)) (CellIs.below hcj (chain hbq hb5)))) fun hHeld => ?_
      clear hK K
      refine tk 7 21 ?_
      refine tk 8 29 ?_
      refine tk 9 30 ?_
      refine tk 10 31 ?_
      refine tk 11 10 ?_
      refine tk 12 11 ?_
      refine tk 13 12 ?_
      refine wpAnyH_done (by kernel_rfl) ?_ _
      clear hHeld
      go_wp2
      go_roundg (OS.length - (i + 1))
      case measure => omega
      case rel => exact ⟨i + 1, by omega, rfl, by go_num, by rw [HUS2.out, HMX.out], chain hbq hb5⟩
    · obtain rfl : i = OS.length := by omega
      rw [HALL.out]
      clear hul
      go_wp2
      go_ret
      exact ⟨rfl, chain hb hbel⟩
end Go.Proofs.YtciljbnailobgaaGreat
