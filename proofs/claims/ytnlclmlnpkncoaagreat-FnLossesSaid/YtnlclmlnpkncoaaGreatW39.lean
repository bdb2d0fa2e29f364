/- Texts of a proof, laid together. -/
import Derived.Test.YtnlclmlnpkncoaaGreatW37
import Derived.Test.YtnlclmlnpkncoaaGreatW21
import Derived.Test.YtnlclmlnpkncoaaGreatW38
import Derived.Test.YtnlclmlnpkncoaaGreatW36
import Derived.Deep.LoopGhost
namespace Go.Proofs.YtnlclmlnpkncoaaGreat
open Go.ChangeShapes Go.WideShapes Go.ChangeAt Go.RowKit
set_option linter.unusedVariables false
set_option linter.unusedSimpArgs false
set_option maxRecDepth 4000
set_option maxRecDepth 8000 in
set_option maxHeartbeats 4000000 in
theorem l12Value_step (t : Tm) (hS : 1 ≤ t.S ∧ t.S ≤ 6) (xs ys : List Int) (a1 a2 : Option Addr) (n1 n2 c1 c2 : Nat) (IH : WmOk t (pwT xs + pwT ys)) (w : World) (hI : TmI t w) (hx : t.In xs) (hy : t.In ys) (hn1 : xs.length = n1) (hn2 : ys.length = n2) (hc1 : n1 ≤ c1) (hc2 : n2 ≤ c2) (hr1 : RF t w a1 xs) (hr2 : RF t w a2 ys) :
    Calls Tryz.prog 114 #[.pointer (some ⟨t.g, 0, none⟩), .slice a1 n1 c1, .slice a2 n2 c2] w (EGot t (wc t.S xs ys) w) := by
  have htp := tp_in hS
  have hx' : Ps t.p t.c t.h (t.S : Int) xs := hx
  have hy' : Ps t.p t.c t.h (t.S : Int) ys := hy
  obtain ⟨u1, u2, u3, u4, u5, u6, u7, u8⟩ := hx'.po
  obtain ⟨v1, v2, v3, v4, v5, -⟩ := hy'.po
  have HS1 := Lib.hid (fun W (r : IRow W a1 xs) => l10Sum_any a1 n1 c1 xs W hn1 (by omega) (fun x hx => by have := u1.all x hx; omega) r)
  have HS2 := Lib.hid (fun W (r : IRow W a2 ys) => l10Sum_any a2 n2 c2 ys W hn2 (by omega) (fun x hx => by have := v1.all x hx; omega) r)
  have hnx := fun W (r : IRow W a1 xs) => by
    obtain ⟨s1, s2, s3⟩ := side_nats (okP_v hx').2 (by omega)
    have hq := l10Number_any t.p t.h (t.S : Int) t.c.toNat a1 n1 c1 (nats xs) xs W (by omega) (by omega) hn1 (by omega) s2 (by rw [← hn1, u4]; have := hI.num; omega) s3 r
    rw [show ((t.c.toNat : Nat) : Int) = t.c by omega] at hq
    exact hq
  have hny := fun W (r : IRow W a2 ys) => by
    obtain ⟨s1, s2, s3⟩ := side_nats (okP_v hy').2 (by omega)
    have hq := l10Number_any t.p t.h (t.S : Int) t.c.toNat a2 n2 c2 (nats ys) ys W (by omega) (by omega) hn2 (by omega) s2 (by rw [← hn2, v4]; have := hI.num; omega) s3 r
    rw [show ((t.c.toNat : Nat) : Int) = t.c by omega] at hq
    exact hq
  rw [show bnN (nats xs) t.c.toNat = nm t.c xs from rfl] at hnx
  rw [show bnN (nats ys) t.c.toNat = nm t.c ys from rfl] at hny
  have HNX := Lib.hid hnx
  have HNY := Lib.hid hny
  have HR1 := Lib.hid hr1
  have HR2 := Lib.hid hr2
  have hl := hI.lts
  obtain ⟨z6, hz6e⟩ : ∃ z, w.heap.size = z := ⟨_, rfl⟩
  have hz6 : w.heap.size ≤ z6 := by omega
  have hz6k : t.g < z6 ∧ t.gk < z6 ∧ t.gv < z6 := by omega
  have BO := Blk.new w #[.int .i64 0, .int .i64 0] 35
  have hal : Below w.heap.size w (w.alloc (.cells #[.int .i64 0, .int .i64 0] 35)) := (Below.refl _ _).alloc (Nat.le_refl _) _
  have hg : Gr t.gk t.gv w (w.alloc (.cells #[.int .i64 0, .int .i64 0] 35)) := Gr.of hal
  replace hI := hI.below hal
  have hs1 : (w.alloc (.cells #[.int .i64 0, .int .i64 0] 35)).heap.size = z6 + 1 := by simp; omega
  clear hr1 hr2 hal hnx hny
  rw [hz6e] at BO
  obtain ⟨z0, z1, zf, zl⟩ := BO.two
  go_enter Tryz.func114, Tryz.ntmps114
  go_wp2_with fail
  clear z0 z1 zf zl
  (try rw [hz6e])
  generalize (w.alloc (.cells #[.int .i64 0, .int .i64 0] 35)) = w1 at *
  clear hz6e
  refine (HS1.out _ (HR1.out.gr hg).irow).mono ?_
  rintro e w2 ⟨rfl, rfl⟩
  by_cases kx : xs.sum = 0
  · have hw := wc_own (S := t.S) (other := ys) kx
    rw [kx]
    obtain ⟨z0, z1, zf, zl⟩ := BO.two
    go_wp2_with fail
    refine (l11One_any _).mono ?_
    rintro e w5 ⟨rfl, hb5⟩
    clear z0 z1 zf zl
    replace hI := hI.below hb5
    replace BO := BO.below hb5
    replace hg := hg.then hb5
    clear hb5
    obtain ⟨z0, z1, zf, zl⟩ := BO.two
    go_wp2_with fail
    have BRn := BO.set2 (.int .i64 1) (.int .i64 0)
    obtain ⟨u0, u1, uf, ul⟩ := BRn.two
    refine bodyPost_ret (v := .tuple #[.agg #[.int .i64 1, .int .i64 0], .bool true]) (by simp [results, Tryz.results114, go_sem, u0, u1]) rfl ?_
    exact ⟨1, 0, true, rfl, by rw [hw]; exact ⟨rfl, isP_one hS⟩, (hI.other (by omega) (by omega) (by omega)).other (by omega) (by omega) (by omega), (hg.set hz6).set hz6⟩
  have f0 : (xs.sum == 0) = false := by rw [beq_eq_false_iff_ne]; exact kx
  go_wp2_with fail
  refine (HS2.out _ (HR2.out.gr hg).irow).mono ?_
  rintro e w2 ⟨rfl, rfl⟩
  by_cases ky : ys.sum = 0
  · have hw := wc_other (S := t.S) kx ky
    rw [ky]
    obtain ⟨z0, z1, zf, zl⟩ := BO.two
    go_wp2_with fail
    have BRn := BO.set2 (.int .i64 0) (.int .i64 0)
    obtain ⟨u0, u1, uf, ul⟩ := BRn.two
    refine bodyPost_ret (v := .tuple #[.agg #[.int .i64 0, .int .i64 0], .bool true]) (by simp [results, Tryz.results114, go_sem, u0, u1]) rfl ?_
    exact ⟨0, 0, true, rfl, by rw [hw]; exact ⟨rfl, isP_zero hS⟩, (hI.other (by omega) (by omega) (by omega)).other (by omega) (by omega) (by omega), (hg.set hz6).set hz6⟩
  have f1 : (ys.sum == 0) = false := by rw [beq_eq_false_iff_ne]; exact ky
  have hlx := nm_lt hx'
  have hly := nm_lt hy'
  have hnum := hI.num
  rw [← hnum.1] at hlx hly
  obtain ⟨X, hX⟩ : ∃ X, nm t.c xs = X := ⟨_, rfl⟩
  obtain ⟨Y, hY⟩ : ∃ Y, nm t.c ys = Y := ⟨_, rfl⟩
  rw [hX] at HNX hlx
  rw [hY] at HNY hly
  obtain ⟨M, hM⟩ : ∃ M, X * t.N = M := ⟨_, rfl⟩
  have hMl : M ≤ 500 * 500 := by rw [← hM]; exact Nat.mul_le_mul (by omega) (by omega)
  have wz1 : IntKind.i64.wrap ((X : Int) * (t.N : Int)) = (M : Int) := by
    rw [← Int.natCast_mul, hM]
    exact IntWalk.i64_in _ (by omega)
  obtain ⟨AT, hAT⟩ : ∃ A, M + Y = A := ⟨_, rfl⟩
  have wz2 : IntKind.i64.wrap ((M : Int) + (Y : Int)) = (AT : Int) := by
    rw [← Int.natCast_add, hAT]
    exact IntWalk.i64_in _ (by omega)
  have hAN : AT < t.N * t.N := by
    have l3 := Nat.mul_le_mul_right t.N (show X + 1 ≤ t.N from hlx)
    rw [Nat.add_mul] at l3
    omega
  have HNUM := Lib.hid hnum
  have hN5 : t.N ≤ 500 := hnum.2.2
  clear hnum
  have HAT := Lib.hid (show nm t.c xs * t.N + nm t.c ys = AT by rw [hX, hY, hM, hAT])
  clear hM hX hY u1 u2 u3 u4 u5 u6 u7 u8 v1 v2 v3 v4 v5 hx' hy'
  go_wp2_with fail
  replace hI := hI.drew
  replace BO := BO.drew
  replace hg := hg.drew
  refine wp_region_held_drew (S := fun w' => w'.cell? ⟨t.g, 0, none⟩ = some (.int .i64 t.p) ∧ w'.cell? ⟨t.g, 1, none⟩ = some (.int .i64 t.c) ∧ w'.cell? ⟨t.g, 2, none⟩ = some (.int .i64 t.h) ∧ w'.cell? ⟨t.g, 3, none⟩ = some (.int .i64 (t.S : Int)) ∧ w'.cell? ⟨t.g, 4, none⟩ = some (.int .i64 (t.N : Int))) (by kernel_rfl) ⟨hI.st.seven.1, hI.st.seven.2.1, hI.st.seven.2.2.1, hI.st.seven.2.2.2.1, hI.st.seven.2.2.2.2.1⟩ (fun hHeld => ?_)
  clear hHeld
  have hz_vd : w1.drew.heap.size = w1.heap.size := rfl
  generalize w1.drew = vd at *
  have hHeld : vd.cell? ⟨t.g, 0, none⟩ = some (.int .i64 t.p) ∧ vd.cell? ⟨t.g, 1, none⟩ = some (.int .i64 t.c) ∧ vd.cell? ⟨t.g, 2, none⟩ = some (.int .i64 t.h) ∧ vd.cell? ⟨t.g, 3, none⟩ = some (.int .i64 (t.S : Int)) ∧ vd.cell? ⟨t.g, 4, none⟩ = some (.int .i64 (t.N : Int)) := ⟨hI.st.seven.1, hI.st.seven.2.1, hI.st.seven.2.2.1, hI.st.seven.2.2.2.1, hI.st.seven.2.2.2.2.1⟩
  refine tk 0 25 ?_
  refine tk 1 26 ?_
  refine tk 2 27 ?_
  refine tk 3 28 ?_
  refine tk 4 29 ?_
  refine tk 6 31 ?_
  refine tk 7 32 ?_
  refine tk 8 33 ?_
  refine tk 9 34 ?_
  refine tk 11 36 ?_
  refine tk 12 37 ?_
  refine tk 13 38 ?_
  refine tk 14 39 ?_
  refine tk 15 40 ?_
  refine rdk 5 30 fun K hK => ?_
  go_simp
  refine (HNX.out _ (HR1.out.gr hg).irow).mono ?_
  rintro e w5 ⟨rfl, hb5⟩
  replace hI := hI.below hb5
  replace BO := BO.below hb5
  replace hg := hg.then hb5
  clear hb5
  (try go_wp2_with fail)
  refine hko hK ⟨hI.st.seven.1, hI.st.seven.2.1, hI.st.seven.2.2.1, hI.st.seven.2.2.2.1, hI.st.seven.2.2.2.2.1⟩ fun hHeld => ?_
  clear hK K
  refine tk 10 35 ?_
  refine rdk 16 41 fun K hK => ?_
  go_simp
  refine (HNY.out _ (HR2.out.gr hg).irow).mono ?_
  rintro e w6 ⟨rfl, hb6⟩
  replace hI := hI.below hb6
  replace BO := BO.below hb6
  replace hg := hg.then hb6
  clear hb6
  (try go_wp2_with fail)
  refine hko hK ⟨hI.st.seven.1, hI.st.seven.2.1, hI.st.seven.2.2.1, hI.st.seven.2.2.2.1, hI.st.seven.2.2.2.2.1⟩ fun hHeld => ?_
  clear hK K
  refine tk 17 42 ?_
  refine tk 18 8 ?_
  refine wpAnyH_done (by kernel_rfl) ?_ _
  clear hHeld HNX HNY wz1 wz2 hlx hly hMl
  obtain ⟨NN, hNN⟩ : ∃ q, t.N * t.N = q := ⟨_, rfl⟩
  have HBT := Lib.hid (show ∀ W, Blk W t.g t.cells 113 → Blk W t.g #[.int .i64 t.p, .int .i64 t.c, .int .i64 t.h, .int .i64 (t.S : Int), .int .i64 (t.N : Int), .slice (some ⟨t.gk, 0, none⟩) NN NN, .slice (some ⟨t.gv, 0, none⟩) NN NN] 113 from fun W q => by
    rw [Tm.cells, hNN] at q
    exact q)
  have hNl : NN ≤ 250000 := by have := Nat.mul_le_mul hN5 hN5; omega
  rw [hNN] at hAN
  have i0 : (0 : Int) ≤ (AT : Int) := by omega
  have i1 : (AT : Int) < (NN : Int) := by omega
  obtain ⟨ck, cv, bk, bv, hen⟩ := hI.kn
  have hen1 := hen xs ys hx hy
  unfold EnC at hen1
  rw [HAT.out] at hen1
  obtain ⟨b, u, v, e1, e2, e3, e4⟩ := hen1
  have k0 : w6.cell? ⟨t.gk, AT, none⟩ = some (.bool b) := by rw [bk.cell]; exact e1
  have k1 : w6.cell? ⟨t.gv, AT * 2, none⟩ = some u := by rw [bv.cell]; exact e2
  have k2 : w6.cell? ⟨t.gv, AT * 2 + 1, none⟩ = some v := by rw [bv.cell]; exact e3
  have BT := HBT.out _ hI.st
  obtain ⟨t0, t1, t2, t3, t4, t5, t6, tf, tl⟩ := BT.seven
  cases b with
  | true =>
    obtain ⟨n0, d0, P0, rfl, rfl, hw, hp⟩ := e4 rfl
    clear e1 e2 e3 e4 hen bk bv
    obtain ⟨z0, z1, zf, zl⟩ := BO.two
    go_wp2_with fail
    have BRn := BO.set2 (.int .i64 n0) (.int .i64 d0)
    obtain ⟨u0, u1, uf, ul⟩ := BRn.two
    refine bodyPost_ret (v := .tuple #[.agg #[.int .i64 n0, .int .i64 d0], .bool true]) (by simp [results, Tryz.results114, go_sem, u0, u1]) rfl ?_
    exact ⟨n0, d0, true, rfl, by rw [hw]; exact ⟨rfl, hp⟩, (hI.other (by omega) (by omega) (by omega)).other (by omega) (by omega) (by omega), (hg.set hz6).set hz6⟩
  | false =>
    clear e1 e2 e3 e4 hen k1 k2
    go_wp2_with fail
    clear t0 t1 t2 t3 t4 t5 t6 tf tl BT k0 bk bv ck cv u v
    have hs6 := hg.size
    have hlw := hI.lts
    refine (l09Rolls_any t.p t.c t.h t.S w6 (by omega)).mono ?_
    rintro e wB ⟨ra_, kr, rfl, hOR, hbB⟩
    have hRI := hOR.rin
    have hsB := hbB.size
    replace hI := hI.below hbB
    replace BO := BO.below hbB
    replace hg := hg.then hbB
    clear hOR hbB
    have hlen2 := rollsTo_len2 t.S
    have hlen3 := rollsTo_length t.S
    have hpos : 0 < (rollsTo t.S).length := by
      have := Nat.mul_pos hS.1 (show 0 < t.S + 1 by omega)
      omega
    have hsq : t.S * t.S ≤ 6 * 6 := Nat.mul_le_mul hS.2 hS.2
    obtain ⟨gr, rfl, hRR⟩ : ∃ gr, ra_ = some ⟨gr, 0, none⟩ ∧ RRow wB gr (rollsTo t.S) := by
      rcases hRI with ⟨_, q⟩ | q
      · rw [q] at hpos
        simp at hpos
      · exact q
    have hroll : ∀ r ∈ rollsTo t.S, 1 ≤ r.2 ∧ r.2 ≤ r.1 ∧ r.1 ≤ 6 := fun r hr => rolls_in hS hr
    obtain ⟨RL, hRL⟩ : ∃ RL, rollsTo t.S = RL := ⟨_, rfl⟩
    obtain ⟨n, hn⟩ : ∃ n, RL.length = n := ⟨_, rfl⟩
    rw [hRL] at hpos hlen3 hRR hroll
    rw [hRL]
    rw [hn] at hpos hlen3
    rw [hn]
    have HRL := Lib.hid hRL
    have HN := Lib.hid hn
    have HROLL := Lib.hid hroll
    have HRR := Lib.hid hRR
    have HIB := Lib.hid hI
    have HGB := Lib.hid hg
    have HBO := Lib.hid BO
    have HX := Lib.hid hx
    have HYY := Lib.hid hy
    have hwst := by
      have hx' : Ps t.p t.c t.h (t.S : Int) xs := hx
      have hy' : Ps t.p t.c t.h (t.S : Int) ys := hy
      obtain ⟨q1, q2, q3, -⟩ := hx'.po
      exact wc_step hS q2 q3 q1 hy'.po.1 kx ky
    rw [HRL.out, HN.out] at hwst
    have HW := Lib.hid hwst
    clear hwst
    have n36 : n ≤ 36 := by omega
    obtain ⟨base, hbase⟩ : ∃ z, wB.heap.size = z := ⟨_, rfl⟩
    have hbz : z6 < base ∧ t.g < base ∧ t.gk < base ∧ t.gv < base := by have := hI.lts; have := BO.lt; omega
    have hal : Below wB.heap.size wB (wB.alloc (.cells #[] 35)) := (Below.refl _ _).alloc (Nat.le_refl _) _
    have hO := OwnX.start wB
    have hgB : Gr t.gk t.gv wB (wB.alloc (.cells #[] 35)) := Gr.of hal
    replace hI := hI.below hal
    rw [hbase] at hO
    clear hRI hlen2 hlen3 hsq hRR hroll hRL hn hx hy hal BO hg
    go_wp2_with fail
    (try rw [hbase])
    generalize (wB.alloc (.cells #[] 35)) = wC at *
    go_loopg [10, 11] n (fun m sv i wr => ∃ (W : World) (j : Nat) (X : List Rl) (L : List Int), W = wr ∧ j ≤ n ∧ m = n - j ∧ i = .int .i64 j ∧ OwnX W base sv X ∧ X.length = j ∧ IsPs t.S X L ∧ blA (tp t.S) (wc t.S ys) xs RL j = some L ∧ TmI t W ∧ Gr t.gk t.gv wB W)
    case atStart => exact ⟨wC, 0, [], [], rfl, by omega, by omega, by go_num, hO, rfl, trivial, rfl, hI, hgB⟩
    case round =>
      clear hI hO hgB
      obtain ⟨wr, j, XL, L, hWW, hj, hm, rfl, hO, hXl, hXP, hbl, hI, hgB⟩ := hrel
      subst hWW
      by_cases hlt : j < n
      · have hlt' : (j : Int) < (n : Int) := by omega
        have j0 : (0 : Int) ≤ (j : Int) := by omega
        obtain ⟨⟨ra, rb⟩, hr⟩ : ∃ r, RL[j]? = some r := ⟨_, List.getElem?_eq_getElem (by rw [HN.out]; exact hlt)⟩
        obtain ⟨r1, r2, r3⟩ := HROLL.out _ (List.mem_of_getElem? hr)
        have HFS := Lib.hid (resS_facts (ys := ys) HX.out kx r1 r2 r3)
        have HRJ := Lib.hid hr
        have hgd : RL.getD j (0, 0) = (ra, rb) := by rw [List.getD_eq_getElem?_getD, hr]; rfl
        have hst : blA (tp t.S) (wc t.S ys) xs RL (j + 1) = match bst (tp t.S) (wc t.S ys) (resS xs ra rb) with | none => none | some q => some (L ++ [q.2]) := by
          have hx' : Ps t.p t.c t.h (t.S : Int) xs := HX.out
          rw [blA, hbl]
          dsimp only
          rw [hgd, resS_I hx'.po.1 r1 r2]
          cases bst (tp t.S) (wc t.S ys) (resI xs (ordersP ra rb)) <;> rfl
        have HST := Lib.hid hst
        have HRB := Lib.hid (⟨r1, r2, r3⟩ : 1 ≤ rb ∧ rb ≤ ra ∧ ra ≤ 6)
        have hres := fun W (r : IRow W a1 xs) => by
          have hx' : Ps t.p t.c t.h (t.S : Int) xs := HX.out
          obtain ⟨q1, q2, q3, -⟩ := hx'.po
          exact l10Results_any t.p t.c t.h (t.S : Int) t.h.toNat a1 c1 xs ra rb W q2 q3 q1 (by omega) r1 r2 r3 r
        rw [hn1] at hres
        have HRES := Lib.hid hres
        have HRR2 := Lib.hid (show ∀ W, Gr t.gk t.gv wB W → RRow W gr RL from fun W h => VRow.grm HIB.out HRR.out h (by decide) (by decide))
        have HOO := Lib.hid hO
        have HBL := Lib.hid hbl
        have HXP := Lib.hid hXP
        have HXL := Lib.hid hXl
        have hgr := Gr.refl t.gk t.gv wr
        have hsr := hgB.size
        have RR0 := RRow.two (HRR2.out _ hgB) j _ hr
        clear hr hres hO hbl hXP hXl hgd hst
        obtain ⟨rr0, rr1⟩ := RR0
        obtain ⟨t0, t1, t2, t3, t4, t5, t6, tf, tl⟩ := hI.st.seven
        go_wp2_with fail
        clear rr0 rr1 t0 t1 t2 t3 t4 t5 t6 tf tl
        refine wp_region_held_drew (S := fun w' => w'.cell? ⟨t.g, 0, none⟩ = some (.int .i64 t.p) ∧ w'.cell? ⟨t.g, 1, none⟩ = some (.int .i64 t.c) ∧ w'.cell? ⟨t.g, 2, none⟩ = some (.int .i64 t.h) ∧ w'.cell? ⟨t.g, 3, none⟩ = some (.int .i64 (t.S : Int)) ∧ w'.cell? ⟨gr, j * 2, none⟩ = some (.int .i64 ra) ∧ w'.cell? ⟨gr, j * 2 + 1, none⟩ = some (.int .i64 rb)) (by kernel_rfl) ⟨hI.drew.st.seven.1, hI.drew.st.seven.2.1, hI.drew.st.seven.2.2.1, hI.drew.st.seven.2.2.2.1, (RRow.two (HRR2.out _ hgB.drew) j _ HRJ.out).1, (RRow.two (HRR2.out _ hgB.drew) j _ HRJ.out).2⟩ (fun hHeld => ?_)
        clear hHeld
        replace hI := hI.drew
        replace hgB := hgB.drew
        replace hgr := hgr.drew
        generalize wr.drew = vd at *
        have hHeld : vd.cell? ⟨t.g, 0, none⟩ = some (.int .i64 t.p) ∧ vd.cell? ⟨t.g, 1, none⟩ = some (.int .i64 t.c) ∧ vd.cell? ⟨t.g, 2, none⟩ = some (.int .i64 t.h) ∧ vd.cell? ⟨t.g, 3, none⟩ = some (.int .i64 (t.S : Int)) ∧ vd.cell? ⟨gr, j * 2, none⟩ = some (.int .i64 ra) ∧ vd.cell? ⟨gr, j * 2 + 1, none⟩ = some (.int .i64 rb) := ⟨hI.st.seven.1, hI.st.seven.2.1, hI.st.seven.2.2.1, hI.st.seven.2.2.2.1, (RRow.two (HRR2.out _ hgB) j _ HRJ.out).1, (RRow.two (HRR2.out _ hgB) j _ HRJ.out).2⟩
        refine tk 0 70 ?_
        refine tk 1 71 ?_
        refine tk 2 72 ?_
        refine tk 3 73 ?_
        refine tk 4 74 ?_
        refine tk 5 75 ?_
        refine tk 6 76 ?_
        refine tk 7 77 ?_
        refine tk 8 78 ?_
        refine tk 9 79 ?_
        refine tk 11 81 ?_
        refine wpAnyH_ready (rs := [10, 17]) (by kernel_rfl) (by simp) ?_
        refine AllReadyH.cons (o := ⟨some 80, _, _, _, _, _⟩) rfl (fun K hK => ?_) (AllReadyH.cons (o := ⟨some 13, _, _, _, _, _⟩) rfl (fun K hK => ?_) AllReadyH.nil)
        · go_simp
          refine (HRES.out _ (HR1.out.gr (HGB.out.trans hgB)).irow).mono ?_
          rintro e w10 ⟨gl, kl, l, rfl, hkl, hQ, hnm, hA, hC, hb10⟩
          have hrw : ∀ x ∈ l, Row w10 x.1 x.2.2 := fun x hx => (hA x hx).2.2
          clear hA
          replace hI := hI.below hb10
          replace hgB := hgB.then hb10
          replace hgr := hgr.then hb10
          clear hb10
          have hll : l.length = (resS xs ra rb).length := by rw [← hnm, List.length_map]
          have HLL := Lib.hid hll
          have HNM := Lib.hid hnm
          clear hll hnm
          (try go_wp2_with fail)
          refine hko hK ⟨hI.st.seven.1, hI.st.seven.2.1, hI.st.seven.2.2.1, hI.st.seven.2.2.2.1, (RRow.two (HRR2.out _ hgB) j _ HRJ.out).1, (RRow.two (HRR2.out _ hgB) j _ HRJ.out).2⟩ fun hHeld => ?_
          clear hK K
          refine wpAnyH_ready (rs := [12, 17]) (by kernel_rfl) (by simp) ?_
          refine AllReadyH.cons (o := ⟨some 82, _, _, _, _, _⟩) rfl (fun K hK => ?_) (AllReadyH.cons (o := ⟨some 13, _, _, _, _, _⟩) rfl (fun K hK => ?_) AllReadyH.nil)
          · go_simp
            refine (l12Best_any t hS (pwT xs + pwT ys) IH l l.length ys gl kl a2 n2 c2 _ hI rfl (by rw [HLL.out]; exact HFS.out.1) (by rw [HLL.out]; exact HFS.out.2.1) hQ hrw hC (by rw [HNM.out]; exact HFS.out.2.2) HYY.out ky hn2 hc2 (HR2.out.gr (HGB.out.trans hgB))).mono ?_
            rintro e w12 ⟨i0_, n0, d0, b0, rfl, hI2, hga, hbm⟩
            replace hgB := hgB.trans hga
            replace hgr := hgr.trans hga
            clear hI hga hQ hrw hC
            rename TmI t w12 => hI
            rw [HNM.out] at hbm
            have HBM := Lib.hid hbm
            clear hbm
            (try go_wp2_with fail)
            refine hko hK ⟨hI.st.seven.1, hI.st.seven.2.1, hI.st.seven.2.2.1, hI.st.seven.2.2.2.1, (RRow.two (HRR2.out _ hgB) j _ HRJ.out).1, (RRow.two (HRR2.out _ hgB) j _ HRJ.out).2⟩ fun hHeld => ?_
            clear hK K
            refine tk 13 69 ?_
            refine tk 14 83 ?_
            refine tk 15 84 ?_
            refine tk 16 85 ?_
            refine rdk 17 13 fun K hK => ?_
            go_simp
            have hs8 := hgr.size
            have hal : Below w12.heap.size w12 (w12.alloc (.cells #[.int .i64 0, .int .i64 0] 35)) := (Below.refl _ _).alloc (Nat.le_refl _) _
            replace hI := hI.below hal
            replace hgB := hgB.then hal
            replace hgr := hgr.then hal
            have B8 := Blk.new w12 #[.int .i64 0, .int .i64 0] 35
            obtain ⟨g8, hg8⟩ : ∃ g, w12.heap.size = g := ⟨_, rfl⟩
            rw [hg8] at B8 hs8
            clear hal
            (try go_wp2_with fail)
            refine hko hK ⟨hI.st.seven.1, hI.st.seven.2.1, hI.st.seven.2.2.1, hI.st.seven.2.2.2.1, (RRow.two (HRR2.out _ hgB) j _ HRJ.out).1, (RRow.two (HRR2.out _ hgB) j _ HRJ.out).2⟩ fun hHeld => ?_
            clear hK K
            (try rw [hg8])
            generalize w12.alloc (.cells #[.int .i64 0, .int .i64 0] 35) = wA at *
            clear hg8
            refine tk 18 12 ?_
            refine rdn 19 fun K hK => ?_
            clear hHeld
            obtain ⟨z0, z1, zf, zl⟩ := B8.two
            have SI := (hI.other (z := g8) (o := 0) (u := .int .i64 n0) (by omega) (by omega) (by omega)).other (z := g8) (o := 1) (u := .int .i64 d0) (by omega) (by omega) (by omega)
            have SG := (hgB.set (z := g8) (o := 0) (u := .int .i64 n0) (by omega)).set (z := g8) (o := 1) (u := .int .i64 d0) (by omega)
            have SR := (hgr.set (z := g8) (o := 0) (u := .int .i64 n0) (by omega)).set (z := g8) (o := 1) (u := .int .i64 d0) (by omega)
            have SB := B8.set2 (.int .i64 n0) (.int .i64 d0)
            go_simp
            (try go_wp2_with fail)
            refine hko hK ⟨SI.st.seven.1, SI.st.seven.2.1, SI.st.seven.2.2.1, SI.st.seven.2.2.2.1, (RRow.two (HRR2.out _ SG) j _ HRJ.out).1, (RRow.two (HRR2.out _ SG) j _ HRJ.out).2⟩ fun hHeld => ?_
            clear hK K
            clear z0 z1 zf zl hI hgB hgr B8
            generalize ((wA.setCell ⟨g8, 0, none⟩ (.int .i64 n0)).setCell ⟨g8, 1, none⟩ (.int .i64 d0)) = wS at *
            have hI := SI
            have hgB := SG
            have hgr := SR
            have B8 := SB
            clear SI SG SR SB
            refine tk 20 14 ?_
            refine wpAnyH_done (by kernel_rfl) ?_ _
            clear hHeld
            have hO := HOO.out.grm hgr (by omega) (by omega)
            have BO := HBO.out.gr hgB (by omega) (by omega)
            have hg := HGB.out.trans hgB
            have hst := HST.out
            have hbm := HBM.out
            have hsz : base ≤ wS.heap.size := by have := hgB.size; omega
            obtain ⟨z0, z1, zf, zl⟩ := BO.two
            obtain ⟨y0, y1, yf, yl⟩ := B8.two
            cases hq : bst (tp t.S) (wc t.S ys) (resS xs ra rb) with
            | none =>
              rw [hq] at hbm hst
              obtain rfl : b0 = false := hbm
              have hnone : wc t.S xs ys = none := by rw [HW.out, blA_none2 hst n (by omega)]; rfl
              have HNO := Lib.hid hnone
              clear hnone hst hq HBM HST
              go_wp2_with fail
              have BRn := BO.set2 (.int .i64 0) (.int .i64 0)
              obtain ⟨u0, u1, uf, ul⟩ := BRn.two
              refine bodyPost_ret (v := .tuple #[.agg #[.int .i64 0, .int .i64 0], .bool false]) (by simp [results, Tryz.results114, go_sem, u0, u1]) rfl ?_
              exact ⟨0, 0, false, rfl, by rw [HNO.out]; exact rfl, (hI.other (by omega) (by omega) (by omega)).other (by omega) (by omega) (by omega), (hg.set hz6).set hz6⟩
            | some q =>
              rw [hq] at hbm hst
              obtain ⟨rfl, -, -, hPq⟩ := hbm
              have HPQ := Lib.hid hPq
              have HS2 := Lib.hid hst
              have hLl : XL.length ≤ 1048576 := by rw [HXL.out]; omega
              clear hPq hst hq HBM HST
              go_wp2_with (at_builtin; go_loud (refine wp_pushX rfl _ _ rfl base _ XL rfl hO (n0, d0) rfl rfl hLl hsz ?_; intro v2 w9 hO2 hb9))
              go_roundg (n - (j + 1))
              case measure => omega
              case rel => exact ⟨_, j + 1, XL ++ [(n0, d0)], L ++ [q.2], rfl, by omega, rfl, by go_num, hO2, by rw [List.length_append, HXL.out]; rfl, isPs_snoc HPQ.out _ _ HXP.out, HS2.out, hI.keepB hb9 (by omega), hgB.thenB (by rw [hbase]; exact hb9)⟩
          · go_simp
            have hs8 := hgr.size
            have hal : Below w10.heap.size w10 (w10.alloc (.cells #[.int .i64 0, .int .i64 0] 35)) := (Below.refl _ _).alloc (Nat.le_refl _) _
            replace hI := hI.below hal
            replace hgB := hgB.then hal
            replace hgr := hgr.then hal
            have B8 := Blk.new w10 #[.int .i64 0, .int .i64 0] 35
            replace hQ := VRow.below hQ hal
            replace hrw : ∀ x ∈ l, Row (w10.alloc (.cells #[.int .i64 0, .int .i64 0] 35)) x.1 x.2.2 := fun x hx => (hrw x hx).below hal
            obtain ⟨g8, hg8⟩ : ∃ g, w10.heap.size = g := ⟨_, rfl⟩
            rw [hg8] at B8 hs8
            clear hal
            (try go_wp2_with fail)
            refine hko hK ⟨hI.st.seven.1, hI.st.seven.2.1, hI.st.seven.2.2.1, hI.st.seven.2.2.2.1, (RRow.two (HRR2.out _ hgB) j _ HRJ.out).1, (RRow.two (HRR2.out _ hgB) j _ HRJ.out).2⟩ fun hHeld => ?_
            clear hK K
            (try rw [hg8])
            generalize w10.alloc (.cells #[.int .i64 0, .int .i64 0] 35) = wA at *
            clear hg8
            refine rdk 12 82 fun K hK => ?_
            go_simp
            refine (l12Best_any t hS (pwT xs + pwT ys) IH l l.length ys gl kl a2 n2 c2 _ hI rfl (by rw [HLL.out]; exact HFS.out.1) (by rw [HLL.out]; exact HFS.out.2.1) hQ hrw hC (by rw [HNM.out]; exact HFS.out.2.2) HYY.out ky hn2 hc2 (HR2.out.gr (HGB.out.trans hgB))).mono ?_
            rintro e w12 ⟨i0_, n0, d0, b0, rfl, hI2, hga, hbm⟩
            replace B8 := B8.gr hga (by omega) (by omega)
            replace hgB := hgB.trans hga
            replace hgr := hgr.trans hga
            clear hI hga hQ hrw hC
            rename TmI t w12 => hI
            rw [HNM.out] at hbm
            have HBM := Lib.hid hbm
            clear hbm
            (try go_wp2_with fail)
            refine hko hK ⟨hI.st.seven.1, hI.st.seven.2.1, hI.st.seven.2.2.1, hI.st.seven.2.2.2.1, (RRow.two (HRR2.out _ hgB) j _ HRJ.out).1, (RRow.two (HRR2.out _ hgB) j _ HRJ.out).2⟩ fun hHeld => ?_
            clear hK K
            refine tk 13 69 ?_
            refine tk 14 83 ?_
            refine tk 15 84 ?_
            refine tk 16 85 ?_
            refine tk 18 12 ?_
            refine rdn 19 fun K hK => ?_
            clear hHeld
            obtain ⟨z0, z1, zf, zl⟩ := B8.two
            have SI := (hI.other (z := g8) (o := 0) (u := .int .i64 n0) (by omega) (by omega) (by omega)).other (z := g8) (o := 1) (u := .int .i64 d0) (by omega) (by omega) (by omega)
            have SG := (hgB.set (z := g8) (o := 0) (u := .int .i64 n0) (by omega)).set (z := g8) (o := 1) (u := .int .i64 d0) (by omega)
            have SR := (hgr.set (z := g8) (o := 0) (u := .int .i64 n0) (by omega)).set (z := g8) (o := 1) (u := .int .i64 d0) (by omega)
            have SB := B8.set2 (.int .i64 n0) (.int .i64 d0)
            go_simp
            (try go_wp2_with fail)
            refine hko hK ⟨SI.st.seven.1, SI.st.seven.2.1, SI.st.seven.2.2.1, SI.st.seven.2.2.2.1, (RRow.two (HRR2.out _ SG) j _ HRJ.out).1, (RRow.two (HRR2.out _ SG) j _ HRJ.out).2⟩ fun hHeld => ?_
            clear hK K
            clear z0 z1 zf zl hI hgB hgr B8
            generalize ((w12.setCell ⟨g8, 0, none⟩ (.int .i64 n0)).setCell ⟨g8, 1, none⟩ (.int .i64 d0)) = wS at *
            have hI := SI
            have hgB := SG
            have hgr := SR
            have B8 := SB
            clear SI SG SR SB
            refine tk 20 14 ?_
            refine wpAnyH_done (by kernel_rfl) ?_ _
            clear hHeld
            have hO := HOO.out.grm hgr (by omega) (by omega)
            have BO := HBO.out.gr hgB (by omega) (by omega)
            have hg := HGB.out.trans hgB
            have hst := HST.out
            have hbm := HBM.out
            have hsz : base ≤ wS.heap.size := by have := hgB.size; omega
            obtain ⟨z0, z1, zf, zl⟩ := BO.two
            obtain ⟨y0, y1, yf, yl⟩ := B8.two
            cases hq : bst (tp t.S) (wc t.S ys) (resS xs ra rb) with
            | none =>
              rw [hq] at hbm hst
              obtain rfl : b0 = false := hbm
              have hnone : wc t.S xs ys = none := by rw [HW.out, blA_none2 hst n (by omega)]; rfl
              have HNO := Lib.hid hnone
              clear hnone hst hq HBM HST
              go_wp2_with fail
              have BRn := BO.set2 (.int .i64 0) (.int .i64 0)
              obtain ⟨u0, u1, uf, ul⟩ := BRn.two
              refine bodyPost_ret (v := .tuple #[.agg #[.int .i64 0, .int .i64 0], .bool false]) (by simp [results, Tryz.results114, go_sem, u0, u1]) rfl ?_
              exact ⟨0, 0, false, rfl, by rw [HNO.out]; exact rfl, (hI.other (by omega) (by omega) (by omega)).other (by omega) (by omega) (by omega), (hg.set hz6).set hz6⟩
            | some q =>
              rw [hq] at hbm hst
              obtain ⟨rfl, -, -, hPq⟩ := hbm
              have HPQ := Lib.hid hPq
              have HS2 := Lib.hid hst
              have hLl : XL.length ≤ 1048576 := by rw [HXL.out]; omega
              clear hPq hst hq HBM HST
              go_wp2_with (at_builtin; go_loud (refine wp_pushX rfl _ _ rfl base _ XL rfl hO (n0, d0) rfl rfl hLl hsz ?_; intro v2 w9 hO2 hb9))
              go_roundg (n - (j + 1))
              case measure => omega
              case rel => exact ⟨_, j + 1, XL ++ [(n0, d0)], L ++ [q.2], rfl, by omega, rfl, by go_num, hO2, by rw [List.length_append, HXL.out]; rfl, isPs_snoc HPQ.out _ _ HXP.out, HS2.out, hI.keepB hb9 (by omega), hgB.thenB (by rw [hbase]; exact hb9)⟩
        · go_simp
          have hs8 := hgr.size
          have hal : Below vd.heap.size vd (vd.alloc (.cells #[.int .i64 0, .int .i64 0] 35)) := (Below.refl _ _).alloc (Nat.le_refl _) _
          replace hI := hI.below hal
          replace hgB := hgB.then hal
          replace hgr := hgr.then hal
          have B8 := Blk.new vd #[.int .i64 0, .int .i64 0] 35
          obtain ⟨g8, hg8⟩ : ∃ g, vd.heap.size = g := ⟨_, rfl⟩
          rw [hg8] at B8 hs8
          clear hal
          (try go_wp2_with fail)
          refine hko hK ⟨hI.st.seven.1, hI.st.seven.2.1, hI.st.seven.2.2.1, hI.st.seven.2.2.2.1, (RRow.two (HRR2.out _ hgB) j _ HRJ.out).1, (RRow.two (HRR2.out _ hgB) j _ HRJ.out).2⟩ fun hHeld => ?_
          clear hK K
          (try rw [hg8])
          generalize vd.alloc (.cells #[.int .i64 0, .int .i64 0] 35) = wA at *
          clear hg8
          refine rdk 10 80 fun K hK => ?_
          go_simp
          refine (HRES.out _ (HR1.out.gr (HGB.out.trans hgB)).irow).mono ?_
          rintro e w10 ⟨gl, kl, l, rfl, hkl, hQ, hnm, hA, hC, hb10⟩
          have hrw : ∀ x ∈ l, Row w10 x.1 x.2.2 := fun x hx => (hA x hx).2.2
          clear hA
          replace hI := hI.below hb10
          replace hgB := hgB.then hb10
          replace hgr := hgr.then hb10
          replace B8 := B8.below hb10
          clear hb10
          have hll : l.length = (resS xs ra rb).length := by rw [← hnm, List.length_map]
          have HLL := Lib.hid hll
          have HNM := Lib.hid hnm
          clear hll hnm
          (try go_wp2_with fail)
          refine hko hK ⟨hI.st.seven.1, hI.st.seven.2.1, hI.st.seven.2.2.1, hI.st.seven.2.2.2.1, (RRow.two (HRR2.out _ hgB) j _ HRJ.out).1, (RRow.two (HRR2.out _ hgB) j _ HRJ.out).2⟩ fun hHeld => ?_
          clear hK K
          refine rdk 12 82 fun K hK => ?_
          go_simp
          refine (l12Best_any t hS (pwT xs + pwT ys) IH l l.length ys gl kl a2 n2 c2 _ hI rfl (by rw [HLL.out]; exact HFS.out.1) (by rw [HLL.out]; exact HFS.out.2.1) hQ hrw hC (by rw [HNM.out]; exact HFS.out.2.2) HYY.out ky hn2 hc2 (HR2.out.gr (HGB.out.trans hgB))).mono ?_
          rintro e w12 ⟨i0_, n0, d0, b0, rfl, hI2, hga, hbm⟩
          replace B8 := B8.gr hga (by omega) (by omega)
          replace hgB := hgB.trans hga
          replace hgr := hgr.trans hga
          clear hI hga hQ hrw hC
          rename TmI t w12 => hI
          rw [HNM.out] at hbm
          have HBM := Lib.hid hbm
          clear hbm
          (try go_wp2_with fail)
          refine hko hK ⟨hI.st.seven.1, hI.st.seven.2.1, hI.st.seven.2.2.1, hI.st.seven.2.2.2.1, (RRow.two (HRR2.out _ hgB) j _ HRJ.out).1, (RRow.two (HRR2.out _ hgB) j _ HRJ.out).2⟩ fun hHeld => ?_
          clear hK K
          refine tk 13 69 ?_
          refine tk 14 83 ?_
          refine tk 15 84 ?_
          refine tk 16 85 ?_
          refine tk 18 12 ?_
          refine rdn 19 fun K hK => ?_
          clear hHeld
          obtain ⟨z0, z1, zf, zl⟩ := B8.two
          have SI := (hI.other (z := g8) (o := 0) (u := .int .i64 n0) (by omega) (by omega) (by omega)).other (z := g8) (o := 1) (u := .int .i64 d0) (by omega) (by omega) (by omega)
          have SG := (hgB.set (z := g8) (o := 0) (u := .int .i64 n0) (by omega)).set (z := g8) (o := 1) (u := .int .i64 d0) (by omega)
          have SR := (hgr.set (z := g8) (o := 0) (u := .int .i64 n0) (by omega)).set (z := g8) (o := 1) (u := .int .i64 d0) (by omega)
          have SB := B8.set2 (.int .i64 n0) (.int .i64 d0)
          go_simp
          (try go_wp2_with fail)
          refine hko hK ⟨SI.st.seven.1, SI.st.seven.2.1, SI.st.seven.2.2.1, SI.st.seven.2.2.2.1, (RRow.two (HRR2.out _ SG) j _ HRJ.out).1, (RRow.two (HRR2.out _ SG) j _ HRJ.out).2⟩ fun hHeld => ?_
          clear hK K
          clear z0 z1 zf zl hI hgB hgr B8
          generalize ((w12.setCell ⟨g8, 0, none⟩ (.int .i64 n0)).setCell ⟨g8, 1, none⟩ (.int .i64 d0)) = wS at *
          have hI := SI
          have hgB := SG
          have hgr := SR
          have B8 := SB
          clear SI SG SR SB
          refine tk 20 14 ?_
          refine wpAnyH_done (by kernel_rfl) ?_ _
          clear hHeld
          have hO := HOO.out.grm hgr (by omega) (by omega)
          have BO := HBO.out.gr hgB (by omega) (by omega)
          have hg := HGB.out.trans hgB
          have hst := HST.out
          have hbm := HBM.out
          have hsz : base ≤ wS.heap.size := by have := hgB.size; omega
          obtain ⟨z0, z1, zf, zl⟩ := BO.two
          obtain ⟨y0, y1, yf, yl⟩ := B8.two
          cases hq : bst (tp t.S) (wc t.S ys) (resS xs ra rb) with
          | none =>
            rw [hq] at hbm hst
            obtain rfl : b0 = false := hbm
            have hnone : wc t.S xs ys = none := by rw [HW.out, blA_none2 hst n (by omega)]; rfl
            have HNO := Lib.hid hnone
            clear hnone hst hq HBM HST
            go_wp2_with fail
            have BRn := BO.set2 (.int .i64 0) (.int .i64 0)
            obtain ⟨u0, u1, uf, ul⟩ := BRn.two
            refine bodyPost_ret (v := .tuple #[.agg #[.int .i64 0, .int .i64 0], .bool false]) (by simp [results, Tryz.results114, go_sem, u0, u1]) rfl ?_
            exact ⟨0, 0, false, rfl, by rw [HNO.out]; exact rfl, (hI.other (by omega) (by omega) (by omega)).other (by omega) (by omega) (by omega), (hg.set hz6).set hz6⟩
          | some q =>
            rw [hq] at hbm hst
            obtain ⟨rfl, -, -, hPq⟩ := hbm
            have HPQ := Lib.hid hPq
            have HS2 := Lib.hid hst
            have hLl : XL.length ≤ 1048576 := by rw [HXL.out]; omega
            clear hPq hst hq HBM HST
            go_wp2_with (at_builtin; go_loud (refine wp_pushX rfl _ _ rfl base _ XL rfl hO (n0, d0) rfl rfl hLl hsz ?_; intro v2 w9 hO2 hb9))
            go_roundg (n - (j + 1))
            case measure => omega
            case rel => exact ⟨_, j + 1, XL ++ [(n0, d0)], L ++ [q.2], rfl, by omega, rfl, by go_num, hO2, by rw [List.length_append, HXL.out]; rfl, isPs_snoc HPQ.out _ _ HXP.out, HS2.out, hI.keepB hb9 (by omega), hgB.thenB (by rw [hbase]; exact hb9)⟩
      · obtain rfl : j = n := by omega
        obtain ⟨va, kv, rfl⟩ := hO.form
        have hbl2 : blA (tp t.S) (wc t.S ys) xs (rollsTo t.S) j = some L := by rw [HRL.out]; exact hbl
        have hbd := blA_bounds hS HX.out HYY.out kx (by rw [HRL.out, HN.out]; exact Nat.le_refl _) hbl2
        have hLl : L.length = j := blA_length hbl
        have hmn := mean_of hS hXP hbd (by omega)
        have HW2 : Hid (wc t.S xs ys = mnP t.S (some L)) := Lib.hid (by rw [HW.out, hbl])
        have hme := fun W (h : OX W va XL) => l09Mean_any t.p t.c t.h t.S hS va kv XL (by rw [hXl, HRL.out, HN.out]) (isPs_valid XL L hXP) W h
        have HME := Lib.hid hme
        have HOX_ := Lib.hid hO.ox
        have HMN := Lib.hid hmn
        have HBO2 := Lib.hid (HBO.out.gr hgB (by omega) (by omega))
        have HG2 := Lib.hid (HGB.out.trans hgB)
        have hszr : z6 < wr.heap.size := HBO2.out.lt
        have HN1 := Lib.hid hn1
        have HN2 := Lib.hid hn2
        have HXL2 := Lib.hid hXl
        clear hme hbl hbl2 hbd hLl hXP hO hmn hgB hXl hn1 hn2 hbase HBO HGB HW HRR HROLL HIB
        obtain ⟨t0, t1, t2, t3, t4, t5, t6, tf, tl⟩ := hI.st.seven
        go_wp2_with fail
        clear t0 t1 t2 t3 t4 t5 t6 tf tl
        rcases HMN.out with ⟨hm1, hm2⟩ | ⟨P0, n0, d0, hm1, hm2, hmp⟩
        · rw [hm2] at HME
          simp only [xoN, xoD, Option.isSome] at HME
          refine (HME.out _ HOX_.out).mono ?_
          rintro e w7 ⟨rfl, hb7⟩
          replace hI := hI.below hb7
          have BO := HBO2.out.below hb7
          have hg := HG2.out.then hb7
          have hal : Below w7.heap.size w7 (w7.alloc (.cells #[.int .i64 0, .int .i64 0] 35)) := (Below.refl _ _).alloc (Nat.le_refl _) _
          replace hI := hI.below hal
          replace BO := BO.below hal
          replace hg := hg.then hal
          have HNO := Lib.hid (show wc t.S xs ys = none by rw [HW2.out, hm1])
          clear hm1 hm2 hal hb7 HME HMN HOX_ HXL2 HW2
          obtain ⟨z0, z1, zf, zl⟩ := BO.two
          go_wp2_with fail
          have BRn := BO.set2 (.int .i64 0) (.int .i64 0)
          obtain ⟨u0, u1, uf, ul⟩ := BRn.two
          refine bodyPost_ret (v := .tuple #[.agg #[.int .i64 0, .int .i64 0], .bool false]) (by simp [results, Tryz.results114, go_sem, u0, u1]) rfl ?_
          exact ⟨0, 0, false, rfl, by rw [HNO.out]; exact rfl, (hI.other (by omega) (by omega) (by omega)).other (by omega) (by omega) (by omega), (hg.set hz6).set hz6⟩
        · rw [hm2] at HME
          simp only [xoN, xoD, Option.isSome] at HME
          refine (HME.out _ HOX_.out).mono ?_
          rintro e w7 ⟨rfl, hb7⟩
          replace hI := hI.below hb7
          have BO := HBO2.out.below hb7
          have hg := HG2.out.then hb7
          have hz7 : z6 < w7.heap.size := BO.lt
          have hal : Below w7.heap.size w7 (w7.alloc (.cells #[.int .i64 n0, .int .i64 d0] 35)) := (Below.refl _ _).alloc (Nat.le_refl _) _
          have BX := Blk.new w7 #[.int .i64 n0, .int .i64 d0] 35
          replace hI := hI.below hal
          replace BO := BO.below hal
          replace hg := hg.then hal
          obtain ⟨z15, hz15⟩ : ∃ z, w7.heap.size = z := ⟨_, rfl⟩
          rw [hz15] at BX hz7
          have HSO := Lib.hid (show wc t.S xs ys = some P0 by rw [HW2.out, hm1])
          have HMP := Lib.hid hmp
          have HNM2 := Lib.hid hI.num
          have ST := hI.st
          obtain ⟨ck, cv, bk, bv, hen⟩ := hI.kn
          have hen1 := hen xs ys HX.out HYY.out
          unfold EnC at hen1
          rw [HAT.out] at hen1
          obtain ⟨b, u, v, e1, e2, e3, -⟩ := hen1
          have k0 : (w7.alloc (.cells #[.int .i64 n0, .int .i64 d0] 35)).cell? ⟨t.gk, AT, none⟩ = some (.bool b) := (bk.cell AT).trans e1
          have kf := bk.free AT
          have BT := HBT.out _ ST
          have HEN := Lib.hid hen
          have HE2 := Lib.hid e2
          have HE3 := Lib.hid e3
          clear hm1 hm2 hmp hal hb7 HME HMN HOX_ HXL2 HW2 hen e1 e2 e3 hI
          obtain ⟨t0, t1, t2, t3, t4, t5, t6, tf, tl⟩ := BT.seven
          obtain ⟨y0, y1, yf, yl⟩ := BX.two
          go_wp2_with fail
          clear t0 t1 t2 t3 t4 t5 t6 tf tl y0 y1 yf yl k0 kf
          (try rw [hz15])
          have hgk7 : t.g ≠ t.gk ∧ t.gk ≠ z15 ∧ t.gk ≠ z6 ∧ t.gv ≠ t.gk := ⟨BT.ne bk (by decide), by omega, by omega, bv.ne bk (by decide)⟩
          have hgv7 : t.g ≠ t.gv ∧ t.gv ≠ z15 ∧ t.gv ≠ z6 := ⟨BT.ne bv (by decide), by omega, by omega⟩
          have ST9 := ST.other (o := AT) (v := .bool true) hgk7.1
          have BX9 := BX.other (o := AT) (v := .bool true) (Ne.symm hgk7.2.1)
          have BO9 := BO.other (o := AT) (v := .bool true) (Ne.symm hgk7.2.2.1)
          have bv9 := bv.other (o := AT) (v := .bool true) hgk7.2.2.2
          have bk9 := bk.set (i := AT) (.bool true)
          have hg9 := hg.setR (o := AT) (u := .bool true)
          clear ST BX BO bv bk hg BT
          generalize ((w7.alloc (.cells #[.int .i64 n0, .int .i64 d0] 35)).setCell ⟨t.gk, AT, none⟩ (.bool true)) = w9 at *
          have BT9 := HBT.out _ ST9
          have hd_ : w9.drew.heap.size = w9.heap.size := rfl
          replace BT9 := BT9.drew
          replace BX9 := BX9.drew
          replace ST9 := ST9.drew
          replace BO9 := BO9.drew
          replace bv9 := bv9.drew
          replace bk9 := bk9.drew
          replace hg9 := hg9.drew
          refine wp_region_held_drew (S := fun w' => w'.cell? ⟨t.g, 0, none⟩ = some (.int .i64 t.p) ∧ w'.cell? ⟨t.g, 1, none⟩ = some (.int .i64 t.c) ∧ w'.cell? ⟨t.g, 2, none⟩ = some (.int .i64 t.h) ∧ w'.cell? ⟨t.g, 3, none⟩ = some (.int .i64 (t.S : Int)) ∧ w'.cell? ⟨t.g, 4, none⟩ = some (.int .i64 (t.N : Int)) ∧ w'.cell? ⟨t.g, 5, none⟩ = some (.slice (some ⟨t.gk, 0, none⟩) NN NN) ∧ w'.cell? ⟨t.g, 6, none⟩ = some (.slice (some ⟨t.gv, 0, none⟩) NN NN) ∧ w'.cell? ⟨z15, 0, none⟩ = some (.int .i64 n0) ∧ w'.cell? ⟨z15, 1, none⟩ = some (.int .i64 d0)) (by kernel_rfl) ⟨BT9.seven.1, BT9.seven.2.1, BT9.seven.2.2.1, BT9.seven.2.2.2.1, BT9.seven.2.2.2.2.1, BT9.seven.2.2.2.2.2.1, BT9.seven.2.2.2.2.2.2.1, BX9.two.1, BX9.two.2.1⟩ (fun hHeld => ?_)
          clear hHeld
          generalize w9.drew = wd at *
          have hHeld : wd.cell? ⟨t.g, 0, none⟩ = some (.int .i64 t.p) ∧ wd.cell? ⟨t.g, 1, none⟩ = some (.int .i64 t.c) ∧ wd.cell? ⟨t.g, 2, none⟩ = some (.int .i64 t.h) ∧ wd.cell? ⟨t.g, 3, none⟩ = some (.int .i64 (t.S : Int)) ∧ wd.cell? ⟨t.g, 4, none⟩ = some (.int .i64 (t.N : Int)) ∧ wd.cell? ⟨t.g, 5, none⟩ = some (.slice (some ⟨t.gk, 0, none⟩) NN NN) ∧ wd.cell? ⟨t.g, 6, none⟩ = some (.slice (some ⟨t.gv, 0, none⟩) NN NN) ∧ wd.cell? ⟨z15, 0, none⟩ = some (.int .i64 n0) ∧ wd.cell? ⟨z15, 1, none⟩ = some (.int .i64 d0) := ⟨BT9.seven.1, BT9.seven.2.1, BT9.seven.2.2.1, BT9.seven.2.2.2.1, BT9.seven.2.2.2.2.1, BT9.seven.2.2.2.2.2.1, BT9.seven.2.2.2.2.2.2.1, BX9.two.1, BX9.two.2.1⟩
          refine tk 0 111 ?_
          refine tk 1 112 ?_
          refine tk 2 113 ?_
          refine tk 3 114 ?_
          refine tk 4 115 ?_
          refine tk 5 116 ?_
          refine tk 6 117 ?_
          refine rdn 7 fun K hK => ?_
          have m0 : wd.cell? ⟨t.gv, AT * 2, none⟩ = some u := (bv9.cell _).trans HE2.out
          have m1 : wd.cell? ⟨t.gv, AT * 2 + 1, none⟩ = some v := (bv9.cell _).trans HE3.out
          have mf := bv9.free (AT * 2)
          have mf1 := bv9.free (AT * 2 + 1)
          have HBT2 := Lib.hid ((BT9.other (o := AT * 2) (v := .int .i64 n0) hgv7.1).other (o := AT * 2 + 1) (v := .int .i64 d0) hgv7.1)
          have HBX2 := Lib.hid ((BX9.other (o := AT * 2) (v := .int .i64 n0) (Ne.symm hgv7.2.1)).other (o := AT * 2 + 1) (v := .int .i64 d0) (Ne.symm hgv7.2.1))
          go_simp
          (try go_wp2_with fail)
          refine hko hK ⟨HBT2.out.seven.1, HBT2.out.seven.2.1, HBT2.out.seven.2.2.1, HBT2.out.seven.2.2.2.1, HBT2.out.seven.2.2.2.2.1, HBT2.out.seven.2.2.2.2.2.1, HBT2.out.seven.2.2.2.2.2.2.1, (Blk.l2 HBX2.out)⟩ fun hHeld => ?_
          clear hK K
          refine wpAnyH_done (by kernel_rfl) ?_ _
          clear hHeld
          have ST10 := (ST9.other (o := AT * 2) (v := .int .i64 n0) hgv7.1).other (o := AT * 2 + 1) (v := .int .i64 d0) hgv7.1
          have BO := (BO9.other (o := AT * 2) (v := .int .i64 n0) (Ne.symm hgv7.2.2)).other (o := AT * 2 + 1) (v := .int .i64 d0) (Ne.symm hgv7.2.2)
          have bk10 := (bk9.other (o := AT * 2) (v := .int .i64 n0) (Ne.symm hgk7.2.2.2)).other (o := AT * 2 + 1) (v := .int .i64 d0) (Ne.symm hgk7.2.2.2)
          have bv10 := (bv9.set (i := AT * 2) (.int .i64 n0)).set (i := AT * 2 + 1) (.int .i64 d0)
          have hg := (hg9.setC (o := AT * 2) (u := .int .i64 n0)).setC (o := AT * 2 + 1) (u := .int .i64 d0)
          have BX := HBX2.out
          have hI := TmI.put (w := w) (n := n0) (d := d0) (P := P0) HX.out HYY.out HNM2.out HEN.out HSO.out HMP.out ST10 (by rw [HAT.out]; exact bk10) (by rw [HAT.out]; exact bv10)
          clear ST10 bk10 bv10 ST9 BO9 bk9 bv9 hg9 BX9 BT9 HBX2 HBT2
          generalize ((wd.setCell ⟨t.gv, AT * 2, none⟩ (.int .i64 n0)).setCell ⟨t.gv, AT * 2 + 1, none⟩ (.int .i64 d0)) = we at *
          obtain ⟨z0, z1, zf, zl⟩ := BO.two
          obtain ⟨y0, y1, yf, yl⟩ := BX.two
          go_wp2_with fail
          clear z0 z1 zf zl y0 y1 yf yl
          have BRn := BO.set2 (.int .i64 n0) (.int .i64 d0)
          obtain ⟨u0, u1, uf, ul⟩ := BRn.two
          refine bodyPost_ret (v := .tuple #[.agg #[.int .i64 n0, .int .i64 d0], .bool true]) (by simp [results, Tryz.results114, go_sem, u0, u1]) rfl ?_
          exact ⟨n0, d0, true, rfl, by rw [HSO.out]; exact ⟨rfl, HMP.out⟩, (hI.other (by omega) (by omega) (by omega)).other (by omega) (by omega) (by omega), (hg.set hz6).set hz6⟩
end Go.Proofs.YtnlclmlnpkncoaaGreat
