/- Contract of the program's list of dice that hit a blot. -/
import Derived.Test.Ytjglempkmenacaa04f
import Derived.Test.Ytjglempkmenacaa04k
import Derived.Test.Ytjglempkmenacaa04p
import Derived.Test.Ytjglempkmenacaa04o
import Derived.Test.YtjglempkmenacaaSwapI
namespace Go.Proofs.Ytjglempkmenacaa
open Go.ChangeShapes Go.WideShapes Go.ChangeAt Go.RowKit
set_option linter.unusedVariables false
set_option linter.unusedSimpArgs false
set_option maxRecDepth 4000

theorem Own.below {w w' : World} {base : Nat} {v : Value} {xs : List Int} (h : Own w base v xs) (hb : Below w.heap.size w w') : Own w' base v xs := h.kept hb
/-- The numbers up to k of which D holds. -/
def dicesTo (D : Int → Bool) : Nat → List Int
  | 0 => []
  | k + 1 => dicesTo D k ++ (if D ((k : Int) + 1) = true then [(k : Int) + 1] else [])
theorem dicesTo_length (D : Int → Bool) : ∀ k, (dicesTo D k).length ≤ k
  | 0 => by simp [dicesTo]
  | k + 1 => by
    have := dicesTo_length D k
    rw [dicesTo, List.length_append]
    split <;> simp <;> omega
/-- The other player can hit on a point with a die. -/
def shotB (P : Nat) (h : Int) (xs ys : List Int) (i d : Int) : Bool := (legL P h ys xs d).any (fun t => t.2.1 == (P : Int) - 1 - i)
def dsL (p c h s : Int) (xs ys : List Int) (i : Int) : List Int := if isB p c h s xs ys = true then (if blotB p.toNat xs i = true then dicesTo (shotB p.toNat h xs ys i) s.toNat else []) else []
def dsR (p c h s : Int) (xs ys : List Int) (i : Int) : Int := if isB p c h s xs ys = true then (if blotB p.toNat xs i = true then 0 else 4) else 1
theorem dsL_length (p c h s : Int) (xs ys : List Int) (i : Int) : (dsL p c h s xs ys i).length ≤ 1048576 := by
  unfold dsL
  split
  · rename_i g
    split
    · have := isB_sides g
      have := dicesTo_length (shotB p.toNat h xs ys i) s.toNat
      omega
    · simp
  · simp
set_option maxHeartbeats 1000000 in
theorem reaches_any (P : Nat) (c h s i : Int) (gv gi : Nat) (w : World) (p1 : P ≤ 24) (i0 : 0 ≤ i) (i9 : i ≤ 1000) (BV : Blk w gv #[.int .i64 (P : Int), .int .i64 c, .int .i64 h, .int .i64 s] 25) (BI : Blk w gi #[.int .i64 i] 2) (t : Stp) :
    Calls Try.prog 77 #[stV t, .pointer (some ⟨gv, 0, none⟩), .pointer (some ⟨gi, 0, none⟩)] w fun e w2 => e = .returned (.bool (t.2.1 == (P : Int) - 1 - i)) ∧ Below w.heap.size w w2 := by
  obtain ⟨a, b, d, q⟩ := t
  obtain ⟨x0, x1, x2, x3, xf, xl⟩ := BV.four
  have c0 := BI.cell 0
  have c1 := BI.free 0
  have c2 := BI.lt
  have p1' : (P : Int) ≤ 24 := by omega
  simp at c0
  go_enter Try.func77, Try.ntmps77
  go_wp2
  go_ret
  exact ⟨rfl, (Below.refl _ _).alloc (Nat.le_refl _) _⟩
set_option maxRecDepth 8000 in
set_option maxHeartbeats 4000000 in
theorem directShots_any (i : Int) (p c h s : Int) (a1 a2 : Option Addr) (n1 n2 c1 c2 : Nat) (xs ys : List Int) (w : World) (h1 : xs.length = n1) (h2 : ys.length = n2) (l1 : n1 ≤ 1048576) (l2 : n2 ≤ 1048576) (r1 : IRow w a1 xs) (r2 : IRow w a2 ys) :
    Calls Try.prog 29 #[.agg #[.int .i64 p, .int .i64 c, .int .i64 h, .int .i64 s], .agg #[.slice a1 n1 c1, .slice a2 n2 c2], .int .i64 i] w (SliceGot2 (dsL p c h s xs ys i) (dsR p c h s xs ys i) w) := by
  unfold dsL dsR
  by_cases g : isB p c h s xs ys = true
  · rw [if_pos g, if_pos g]
    obtain ⟨p0, p1, k0, k1, k2, k3, N1, N2, hx, hy, s0, s1, s2, s3⟩ := isB_parts g
    obtain ⟨P, rfl⟩ := Int.eq_ofNat_of_zero_le (by omega : 0 ≤ p)
    rw [show (P : Int).toNat = P by simp]
    have hs6 := isB_sides g
    have hB := fun W (q1 : IRow W a1 xs) (q2 : IRow W a2 ys) => isBoard_any (P : Int) c h s a1 a2 n1 n2 c1 c2 xs ys W h1 h2 l1 l2 q1 q2
    simp only [g] at hB
    have HB := Lib.hid hB
    clear hB
    obtain ⟨BV, BB, BI, hb, hz⟩ := three_new w #[.int .i64 (P : Int), .int .i64 c, .int .i64 h, .int .i64 s] #[.slice a1 n1 c1, .slice a2 n2 c2] #[.int .i64 i] 25 28 2
    obtain ⟨x0, x1, x2, x3, xf, xl⟩ := BV.four
    obtain ⟨y0, y1, yf, yl⟩ := BB.two
    obtain ⟨i0, i1, i2⟩ := BI.one
    cases gb : blotB P xs i with
    | false =>
      rw [if_neg (by simp), if_neg (by simp)]
      go_enter Try.func29, Try.ntmps29
      go_wp2_with (first | (go_at_call 57; refine (HB.out _ (r1.below hb) (r2.below hb)).mono ?_; rintro e w1 ⟨rfl, hb1⟩; obtain ⟨x0, x1, x2, x3, xf, xl⟩ := (BV.below hb1).four; obtain ⟨y0, y1, yf, yl⟩ := (BB.below hb1).two; obtain ⟨i0, i1, i2⟩ := (BI.below hb1).one) | (go_at_call 58; go_loud (refine (countsOf_any _ c h _ a1 a2 n1 c1 n2 c2 xs ys _ h1 h2 (r1.below (chain hb hb1)) (r2.below (chain hb hb1))).mono ?_; rintro e w2 ⟨B, rfl, q1, q2, hb2⟩; obtain ⟨x0, x1, x2, x3, xf, xl⟩ := (BV.below (chain hb1 hb2)).four; obtain ⟨y0, y1, yf, yl⟩ := (BB.below (chain hb1 hb2)).two; obtain ⟨i0, i1, i2⟩ := (BI.below (chain hb1 hb2)).one)) | (go_at_call 76; go_loud (refine (isBlot_any P 97 98 B xs i _ (by omega) (by omega) (q1.below ((Below.refl w2.heap.size w2).alloc (Nat.le_refl _) _))).mono ?_; rintro e w3 ⟨ebl, hb3⟩; rw [gb] at ebl; subst ebl)))
      refine bodyPost_ret (v := .tuple #[.slice none 0 0, .int .i64 4]) (by simp [results, Try.results29, go_sem]) rfl ?_
      exact ⟨none, 0, rfl, .inl ⟨rfl, rfl⟩, chain (chain (chain hb hb1) hb2) (from_alloc hb3)⟩
    | true =>
      rw [if_pos rfl, if_pos rfl]
      have gb' : 0 ≤ i ∧ i < (P : Int) := by
        simp [blotB] at gb
        omega
      obtain ⟨S, rfl⟩ := Int.eq_ofNat_of_zero_le (by omega : 0 ≤ s)
      rw [show (S : Int).toNat = S by simp]
      obtain ⟨D, hD⟩ : ∃ D, shotB P h xs ys i = D := ⟨_, rfl⟩
      rw [hD]
      have hDd : ∀ d, (legL P h ys xs d).any (fun t => t.2.1 == (P : Int) - 1 - i) = D d := fun d => by rw [← hD]; rfl
      obtain ⟨L, hL⟩ : ∃ L, dicesTo D S = L := ⟨_, rfl⟩
      rw [hL]
      have HL := Lib.hid hL
      have HDD := Lib.hid hDd
      have hdl := dicesTo_length D
      have HDL := Lib.hid hdl
      clear hL hD hDd hdl
      go_enter Try.func29, Try.ntmps29
      go_wp2_with (first | (go_at_call 57; refine (HB.out _ (r1.below hb) (r2.below hb)).mono ?_; rintro e w1 ⟨rfl, hb1⟩; obtain ⟨x0, x1, x2, x3, xf, xl⟩ := (BV.below hb1).four; obtain ⟨y0, y1, yf, yl⟩ := (BB.below hb1).two; obtain ⟨i0, i1, i2⟩ := (BI.below hb1).one) | (go_at_call 58; go_loud (refine (countsOf_any _ c h _ a1 a2 n1 c1 n2 c2 xs ys _ h1 h2 (r1.below (chain hb hb1)) (r2.below (chain hb hb1))).mono ?_; rintro e w2 ⟨B, rfl, q1, q2, hb2⟩; obtain ⟨x0, x1, x2, x3, xf, xl⟩ := (BV.below (chain hb1 hb2)).four; obtain ⟨y0, y1, yf, yl⟩ := (BB.below (chain hb1 hb2)).two; obtain ⟨i0, i1, i2⟩ := (BI.below (chain hb1 hb2)).one)) | (go_at_call 76; go_loud (refine (isBlot_any P 97 98 B xs i _ (by omega) (by omega) (q1.below ((Below.refl w2.heap.size w2).alloc (Nat.le_refl _) _))).mono ?_; rintro e w3 ⟨ebl, hb3⟩; rw [gb] at ebl; subst ebl; obtain ⟨x0, x1, x2, x3, xf, xl⟩ := (BV.below (chain hb1 (chain hb2 (from_alloc hb3)))).four; obtain ⟨i0, i1, i2⟩ := (BI.below (chain hb1 (chain hb2 (from_alloc hb3)))).one)))
      have BT := Blk.new w2 #[.int .i64 (P : Int), fv 97 B, fv 98 B] 74
      have ha : Below w2.heap.size w2 (w2.alloc (.cells #[.int .i64 (P : Int), fv 97 B, fv 98 B] 74)) := (Below.refl _ _).alloc (Nat.le_refl _) _
      have hb23 := chain ha hb3
      replace BT := BT.below hb3
      replace BV := BV.below (chain hb1 (chain hb2 hb23))
      replace BI := BI.below (chain hb1 (chain hb2 hb23))
      replace hb := chain hb (chain hb1 (chain hb2 hb23))
      replace q1 := q1.below hb23
      replace q2 := q2.below hb23
      clear x0 x1 x2 x3 xf xl y0 y1 yf yl i0 i1 i2 ha hb23 hb1 hb2 hb3 HB BB hz
      have hgv : w.heap.size < w3.heap.size := BV.lt
      go_loopg [10, 11] S (fun m q z wr => ∃ (k : Nat) (q0 : Value), k ≤ S ∧ m = S - k ∧ z = .int .i64 ((k : Int) + 1) ∧ q0 = q ∧ Own wr w3.heap.size q0 (dicesTo D k) ∧ Below w3.heap.size w3 wr)
      case atStart => exact ⟨0, _, by omega, by omega, by go_num, rfl, Own.nil _ _, Below.refl _ _⟩
      case round =>
        obtain ⟨k, q0, hk, hm, rfl, rfl, hO, hbel⟩ := hrel
        have hszr := hbel.size
        have HBEL := Lib.hid hbel
        replace BV := BV.below hbel
        replace BI := BI.below hbel
        replace BT := BT.below hbel
        replace q1 := q1.below hbel
        replace q2 := q2.below hbel
        replace hb := chain hb hbel
        clear hbel
        obtain ⟨x0, x1, x2, x3, xf, xl⟩ := BV.four
        obtain ⟨z0, z1, z2, zf, zl⟩ := BT.tri
        by_cases hlt : k < S
        · have hlt' : (k : Int) + 1 ≤ (S : Int) := by omega
          have hk6 : (k : Int) ≤ 6 := by omega
          have hdk : (dicesTo D k).length ≤ 1048576 := by have := HDL.out k; omega
          have hst : dicesTo D (k + 1) = dicesTo D k ++ (if D ((k : Int) + 1) = true then [(k : Int) + 1] else []) := rfl
          have hls := fun W f1 f2 (p1 : Pays f1 B ys W) (p2 : Pays f2 B xs W) => legalSteps_any P c h (S : Int) f1 f2 B ys xs W (by omega) (by omega) (by omega) (by omega) hy hx p1 p2 ((k : Int) + 1) (by omega) (by omega)
          have hcd := HDD.out ((k : Int) + 1)
          have hll := legL_length P h ys xs ((k : Int) + 1)
          obtain ⟨LL, hLL⟩ : ∃ LL, legL P h ys xs ((k : Int) + 1) = LL := ⟨_, rfl⟩
          rw [hLL] at hls hcd hll
          obtain ⟨E, hE⟩ : ∃ E, D ((k : Int) + 1) = E := ⟨_, rfl⟩
          rw [hE] at hcd hst
          have hcn := fun lo hi (a : Option Addr) cap W (hO : OSt lo hi W a LL) (BV : Blk W w.heap.size #[.int .i64 (P : Int), .int .i64 c, .int .i64 h, .int .i64 (S : Int)] 25) (BI : Blk W (w.heap.size + 1 + 1) #[.int .i64 i] 2) => containsFunc_two lo hi a LL.length cap LL 77 w.heap.size (w.heap.size + 1 + 1) (fun t => t.2.1 == (P : Int) - 1 - i) W rfl (by omega) hO (enters_of (fn := Try.f77) (by kernel_rfl) (by kernel_rfl) rfl) (fun W2 hW2 t => reaches_any P c h (S : Int) i _ _ W2 (by omega) gb'.1 (by omega) (BV.below hW2) (BI.below hW2) t)
          rw [hcd] at hcn
          have HLS := Lib.hid hls
          have HCN := Lib.hid hcn
          clear hls hcn hLL hE hcd
          go_wp2_with fail
          clear x0 x1 x2 x3 xf xl z0 z1 z2 zf zl
          have hb3w := HBEL.out
          replace BV := BV.drew
          replace BT := BT.drew
          replace BI := BI.drew
          replace q1 := q1.drew
          replace q2 := q2.drew
          replace hO := hO.drew
          replace hb3w := hb3w.drew
          replace hb := hb.drew
          refine wp_region_held_drew (S := fun w' => w'.cell? ⟨w.heap.size, 0, none⟩ = some (.int .i64 (P : Int)) ∧ w'.cell? ⟨w.heap.size, 1, none⟩ = some (.int .i64 c) ∧ w'.cell? ⟨w.heap.size, 2, none⟩ = some (.int .i64 h) ∧ w'.cell? ⟨w.heap.size, 3, none⟩ = some (.int .i64 (S : Int)) ∧ w'.cell? ⟨w2.heap.size, 0, none⟩ = some (.int .i64 (P : Int)) ∧ w'.cell? ⟨w2.heap.size, 1, none⟩ = some (fv 97 B) ∧ w'.cell? ⟨w2.heap.size, 2, none⟩ = some (fv 98 B) ∧ Blk w' w.heap.size #[.int .i64 (P : Int), .int .i64 c, .int .i64 h, .int .i64 (S : Int)] 25 ∧ Blk w' w2.heap.size #[.int .i64 (P : Int), fv 97 B, fv 98 B] 74 ∧ (Blk w' (w.heap.size + 1 + 1) #[.int .i64 i] 2) ∧ (Pays 97 B xs w') ∧ (Pays 98 B ys w') ∧ (Own w' w3.heap.size q0 (dicesTo D k)) ∧ (Below w3.heap.size w3 w') ∧ Below w.heap.size w w') (by kernel_rfl) ⟨BV.four.1, BV.four.2.1, BV.four.2.2.1, BV.four.2.2.2.1, BT.tri.1, BT.tri.2.1, BT.tri.2.2.1, BV, BT, BI, q1, q2, hO, hb3w, hb⟩ (fun hHeld => ?_)
          refine wpAnyH_take (i := 0) (oi := { dst := some 30, op := _, type := _, pos := _, after := _, guard := _ }) (v := ?_) rfl (by kernel_rfl) (by kernel_rfl) (by kernel_rfl) (fun _ _ _ h => h) (Or.inl ⟨by rfl, ?_⟩) (by assumption) ?_
          rotate_left
          · intro w hSw
            (try dsimp only at hSw)
            go_simp
            (try (with_reducible rfl))
          try simp only [Act.put, List.setIfInBounds_toArray, List.set_cons_zero, List.set_cons_succ]
          refine wpAnyH_take (i := 1) (oi := { dst := some 31, op := _, type := _, pos := _, after := _, guard := _ }) (v := ?_) rfl (by kernel_rfl) (by kernel_rfl) (by kernel_rfl) (fun _ _ _ h => h) (Or.inl ⟨by rfl, ?_⟩) (by assumption) ?_
          rotate_left
          · intro w hSw
            (try dsimp only at hSw)
            go_simp
            (try (with_reducible rfl))
          try simp only [Act.put, List.setIfInBounds_toArray, List.set_cons_zero, List.set_cons_succ]
          refine wpAnyH_take (i := 3) (oi := { dst := some 33, op := _, type := _, pos := _, after := _, guard := _ }) (v := ?_) rfl (by kernel_rfl) (by kernel_rfl) (by kernel_rfl) (fun _ _ _ h => h) (Or.inl ⟨by rfl, ?_⟩) (by assumption) ?_
          rotate_left
          · intro w hSw
            (try dsimp only at hSw)
            go_simp
            (try (with_reducible rfl))
          try simp only [Act.put, List.setIfInBounds_toArray, List.set_cons_zero, List.set_cons_succ]
          refine wpAnyH_take (i := 5) (oi := { dst := some 35, op := _, type := _, pos := _, after := _, guard := _ }) (v := ?_) rfl (by kernel_rfl) (by kernel_rfl) (by kernel_rfl) (fun _ _ _ h => h) (Or.inl ⟨by rfl, ?_⟩) (by assumption) ?_
          rotate_left
          · intro w hSw
            (try dsimp only at hSw)
            go_simp
            (try (with_reducible rfl))
          try simp only [Act.put, List.setIfInBounds_toArray, List.set_cons_zero, List.set_cons_succ]
          refine wpAnyH_ready (rs := [2]) (by kernel_rfl) (by simp) ?_
          refine AllReadyH.cons (o := { dst := some 32, op := _, type := _, pos := _, after := _, guard := _ }) rfl (fun K hK => ?_) AllReadyH.nil
          go_simp
          -- call
          have BV := hHeld.2.2.2.2.2.2.2.1
          have BT := hHeld.2.2.2.2.2.2.2.2.1
          have BI := hHeld.2.2.2.2.2.2.2.2.2.1
          have q1 := hHeld.2.2.2.2.2.2.2.2.2.2.1
          have q2 := hHeld.2.2.2.2.2.2.2.2.2.2.2.1
          have hO := hHeld.2.2.2.2.2.2.2.2.2.2.2.2.1
          have hb3w := hHeld.2.2.2.2.2.2.2.2.2.2.2.2.2.1
          have hb := hHeld.2.2.2.2.2.2.2.2.2.2.2.2.2.2
          clear hHeld
          refine (swapped_any (P : Int) 97 98 B B _).mono ?_
          rintro e wq1 ⟨rfl, hq1⟩
          replace BV := BV.below hq1
          replace BT := BT.below hq1
          replace BI := BI.below hq1
          replace q1 := q1.below hq1
          replace q2 := q2.below hq1
          replace hO := hO.below hq1
          replace hb3w := chain hb3w hq1
          replace hb := chain hb hq1
          (try go_wp2_with fail)
          refine hK.out _ _ ⟨BV.four.1, BV.four.2.1, BV.four.2.2.1, BV.four.2.2.2.1, BT.tri.1, BT.tri.2.1, BT.tri.2.2.1, BV, BT, BI, q1, q2, hO, hb3w, hb⟩ (fun hHeld => ?_)
          clear hK K
          try simp only [Act.put, List.setIfInBounds_toArray, List.set_cons_zero, List.set_cons_succ]
          refine wpAnyH_ready (rs := [4]) (by kernel_rfl) (by simp) ?_
          refine AllReadyH.cons (o := { dst := some 34, op := _, type := _, pos := _, after := _, guard := _ }) rfl (fun K hK => ?_) AllReadyH.nil
          go_simp
          -- call
          have BV := hHeld.2.2.2.2.2.2.2.1
          have BT := hHeld.2.2.2.2.2.2.2.2.1
          have BI := hHeld.2.2.2.2.2.2.2.2.2.1
          have q1 := hHeld.2.2.2.2.2.2.2.2.2.2.1
          have q2 := hHeld.2.2.2.2.2.2.2.2.2.2.2.1
          have hO := hHeld.2.2.2.2.2.2.2.2.2.2.2.2.1
          have hb3w := hHeld.2.2.2.2.2.2.2.2.2.2.2.2.2.1
          have hb := hHeld.2.2.2.2.2.2.2.2.2.2.2.2.2.2
          clear hHeld
          refine (HLS.out _ _ _ q2 q1).mono ?_
          rintro e wq2 ⟨aL, kL, rfl, OL, hq2⟩
          replace BV := BV.below hq2
          replace BT := BT.below hq2
          replace BI := BI.below hq2
          replace q1 := q1.below hq2
          replace q2 := q2.below hq2
          replace hO := hO.below hq2
          replace hb3w := chain hb3w hq2
          replace hb := chain hb hq2
          (try go_wp2_with fail)
          refine hK.out _ _ ⟨BV.four.1, BV.four.2.1, BV.four.2.2.1, BV.four.2.2.2.1, BT.tri.1, BT.tri.2.1, BT.tri.2.2.1, BV, BT, BI, q1, q2, hO, hb3w, hb⟩ (fun hHeld => ?_)
          clear hK K
          try simp only [Act.put, List.setIfInBounds_toArray, List.set_cons_zero, List.set_cons_succ]
          refine wpAnyH_ready (rs := [6]) (by kernel_rfl) (by simp) ?_
          refine AllReadyH.cons (o := { dst := some 36, op := _, type := _, pos := _, after := _, guard := _ }) rfl (fun K hK => ?_) AllReadyH.nil
          go_simp
          -- call
          have BV := hHeld.2.2.2.2.2.2.2.1
          have BT := hHeld.2.2.2.2.2.2.2.2.1
          have BI := hHeld.2.2.2.2.2.2.2.2.2.1
          have q1 := hHeld.2.2.2.2.2.2.2.2.2.2.1
          have q2 := hHeld.2.2.2.2.2.2.2.2.2.2.2.1
          have hO := hHeld.2.2.2.2.2.2.2.2.2.2.2.2.1
          have hb3w := hHeld.2.2.2.2.2.2.2.2.2.2.2.2.2.1
          have hb := hHeld.2.2.2.2.2.2.2.2.2.2.2.2.2.2
          clear hHeld
          refine (HCN.out _ _ aL kL _ OL BV BI).mono ?_
          rintro e wq3 ⟨rfl, hq3⟩
          replace BV := BV.below hq3
          replace BT := BT.below hq3
          replace BI := BI.below hq3
          replace q1 := q1.below hq3
          replace q2 := q2.below hq3
          replace hO := hO.below hq3
          replace hb3w := chain hb3w hq3
          replace hb := chain hb hq3
          (try go_wp2_with fail)
          refine hK.out _ _ ⟨BV.four.1, BV.four.2.1, BV.four.2.2.1, BV.four.2.2.2.1, BT.tri.1, BT.tri.2.1, BT.tri.2.2.1, BV, BT, BI, q1, q2, hO, hb3w, hb⟩ (fun hHeld => ?_)
          clear hK K
          try simp only [Act.put, List.setIfInBounds_toArray, List.set_cons_zero, List.set_cons_succ]
          refine wpAnyH_done (by kernel_rfl) ?_ _
          have BV := hHeld.2.2.2.2.2.2.2.1
          have BT := hHeld.2.2.2.2.2.2.2.2.1
          have BI := hHeld.2.2.2.2.2.2.2.2.2.1
          have q1 := hHeld.2.2.2.2.2.2.2.2.2.2.1
          have q2 := hHeld.2.2.2.2.2.2.2.2.2.2.2.1
          have hO := hHeld.2.2.2.2.2.2.2.2.2.2.2.2.1
          have hb3w := hHeld.2.2.2.2.2.2.2.2.2.2.2.2.2.1
          have hb := hHeld.2.2.2.2.2.2.2.2.2.2.2.2.2.2
          clear hHeld
          have hsz3 := hb3w.size
          cases E with
          | true =>
            rw [if_pos rfl] at hst
            have HST := Lib.hid hst
            clear hst
            go_wp2_with (at_builtin; refine wp_push rfl (.tmp 37) (.tmp 39) rfl w3.heap.size _ (dicesTo D k) rfl hO ((k : Int) + 1) rfl hdk hsz3 ?_; intro v2 w6 hO2 hb6)
            go_roundg (S - (k + 1))
            case measure => omega
            case rel => exact ⟨k + 1, _, by omega, rfl, by go_num, rfl, by rw [HST.out]; exact hO2, hb3w.trans hb6⟩
          | false =>
            rw [if_neg (by simp), List.append_nil] at hst
            have HST := Lib.hid hst
            clear hst
            go_wp2
            go_roundg (S - (k + 1))
            case measure => omega
            case rel => exact ⟨k + 1, _, by omega, rfl, by go_num, rfl, by rw [HST.out]; exact hO, hb3w⟩
        · obtain rfl : k = S := by omega
          obtain ⟨a, cp, rfl⟩ := hO.form
          have hos := hO.osl
          have hE := HL.out
          rw [hE] at hos
          have hEl : (dicesTo D k).length = L.length := by rw [hE]
          rw [hEl]
          clear hE hEl hO
          go_wp2
          refine bodyPost_ret (v := .tuple #[.slice a L.length cp, .int .i64 0]) (by simp [results, Try.results29, go_sem]) rfl ?_
          exact ⟨a, cp, rfl, hos.mono (Nat.le_of_lt (Nat.lt_of_le_of_lt (Nat.le_refl _) hgv)) (Nat.le_refl _), hb⟩
  · rw [if_neg g, if_neg g]
    replace g : isB p c h s xs ys = false := by simpa using g
    have hB := fun W (q1 : IRow W a1 xs) (q2 : IRow W a2 ys) => isBoard_any p c h s a1 a2 n1 n2 c1 c2 xs ys W h1 h2 l1 l2 q1 q2
    simp only [g] at hB
    have HB := Lib.hid hB
    clear hB
    obtain ⟨BV, BB, BI, hb, hz⟩ := three_new w #[.int .i64 p, .int .i64 c, .int .i64 h, .int .i64 s] #[.slice a1 n1 c1, .slice a2 n2 c2] #[.int .i64 i] 25 28 2
    obtain ⟨x0, x1, x2, x3, xf, xl⟩ := BV.four
    obtain ⟨y0, y1, yf, yl⟩ := BB.two
    obtain ⟨i0, i1, i2⟩ := BI.one
    go_enter Try.func29, Try.ntmps29
    go_wp2_with (go_at_call 57; refine (HB.out _ (r1.below hb) (r2.below hb)).mono ?_; rintro e w1 ⟨rfl, hb1⟩; obtain ⟨x0, x1, x2, x3, xf, xl⟩ := (BV.below hb1).four; obtain ⟨y0, y1, yf, yl⟩ := (BB.below hb1).two; obtain ⟨i0, i1, i2⟩ := (BI.below hb1).one)
    refine bodyPost_ret (v := .tuple #[.slice none 0 0, .int .i64 1]) (by simp [results, Try.results29, go_sem]) rfl ?_
    exact ⟨none, 0, rfl, .inl ⟨rfl, rfl⟩, chain hb hb1⟩
end Go.Proofs.Ytjglempkmenacaa
