/- The mean of the luck of all rolls is 0 and the mean of the chances is the win chance: for every code the law of chapter 12 returns true and its argument reads behind the call as it read before. No conditions. -/
import Derived.Test.YtnlclmlnpkncoaaGreatV40
import Derived.Test.YtnlclmlnpkncoaaGreatV41
import Derived.Test.YtnlclmlnpkncoaaGreatV42
import Derived.Test.YtnlclmlnpkncoaaGreatV44
import Derived.Test.YtnlclmlnpkncoaaGreatV36
import Derived.Test.YtnlclmlnpkncoaaGreatV29
import Derived.Deep.Cut
import Derived.Deep.CutRange
import Derived.BigQuiet
import Derived.Test.YtnlclmlnpkncoaaGreatRows
import Derived.ChangeOld
namespace Go.Proofs.YtnlclmlnpkncoaaGreat
open Go.ChangeMaps (open_string shut_string)
open Go.ChangeShapes Go.WideShapes Go.ChangeAt Go.RowKit
set_option linter.unusedVariables false
set_option linter.unusedSimpArgs false
set_option maxRecDepth 4000
theorem code_of_ints {w : World} {x : Addr} {len : Nat} {zs : List Int} (hl : len ≤ zs.length) (_hz : True) (hcell : ∀ i, i < zs.length → w.cell? (x.add i) = some (.int .u8 (zs.getD i 0))) (hwz : ∀ n ∈ zs, (Lit.int .u8 n).wf = true) : CodeIn w.heap.size w (some x) len := by
  intro i hi
  obtain ⟨b, o, spot⟩ := x
  have hc := hcell i (by omega)
  have hspot : spot = none := by
    have hc0 := hcell 0 (by omega)
    simpa [Addr.add] using World.cell?_spot hc0
  subst hspot
  rw [show (⟨b, o, none⟩ : Addr).add i = ⟨b, o + i, none⟩ from by unfold Addr.add; split <;> simp_all] at hc
  have hm : zs.getD i 0 ∈ zs := by
    have : i < zs.length := by omega
    simp [List.getD, this]
  have hw := hwz _ hm
  have hr : 0 ≤ zs.getD i 0 ∧ zs.getD i 0 ≤ 255 := by simpa [Lit.wf, IntKind.min, IntKind.max, IntKind.signed, IntKind.bits] using hw
  exact ⟨b, o, zs.getD i 0, rfl, World.block_lt_of_cell? w _ hc, hc, hr.1, hr.2⟩
theorem bigR_any (a : Option Addr) (len cap : Nat) (w : World) :
    Calls Tryz.prog 5 #[.slice a len cap] w fun e w' => e = .returned (.bool (decide (4096 < (len : Int)))) ∧ w = w' := by
  go_enter Tryz.func5, Tryz.ntmps5
  go_wp2
  go_ret
  exact ⟨rfl, rfl⟩
theorem VRow.byL {w w' : World} {g : Nat} {vs : List Value} {t : TypeId} (h : VRow w g vs t) (e : w'.heap[g]? = w.heap[g]?) : VRow w' g vs t := by
  obtain ⟨cur, hB, r⟩ := h
  exact ⟨cur, e.trans hB, r⟩
theorem OXl.setLo {lo hi g o : Nat} {w : World} {v : Value} {a : Option Addr} {l : List Rl} (h : OXl lo hi w a l) (hg : g < lo) : OXl lo hi (w.setCell ⟨g, o, none⟩ v) a l := by
  rcases h with h | ⟨b, rfl, h1, h2, r⟩
  · exact .inl h
  · exact .inr ⟨b, rfl, h1, h2, VRow.other r (by omega)⟩
theorem ORl.setLo {lo hi g o : Nat} {w : World} {v : Value} {a : Option Addr} {l : List Rl} (h : ORl lo hi w a l) (hg : g < lo) : ORl lo hi (w.setCell ⟨g, o, none⟩ v) a l := by
  rcases h with h | ⟨b, rfl, h1, h2, r⟩
  · exact .inl h
  · exact .inr ⟨b, rfl, h1, h2, VRow.other r (by omega)⟩
theorem OwnX.setLo {base g o : Nat} {w : World} {v u : Value} {l : List Rl} (h : OwnX w base u l) (hg : g < base) : OwnX (w.setCell ⟨g, o, none⟩ v) base u l := h.by fun i h1 _ => Below.heap_setCell _ _ _ _ (by show i ≠ g; omega)
theorem OXl.belowL {lo hi B : Nat} {w w' : World} {a : Option Addr} {l : List Rl} (h : OXl lo hi w a l) (hb : Below B w w') (hh : hi ≤ B) : OXl lo hi w' a l := by
  rcases h with h | ⟨b, rfl, h1, h2, r⟩
  · exact .inl h
  · exact .inr ⟨b, rfl, h1, h2, VRow.byL r (hb.block b (by omega))⟩
theorem ORl.belowL {lo hi B : Nat} {w w' : World} {a : Option Addr} {l : List Rl} (h : ORl lo hi w a l) (hb : Below B w w') (hh : hi ≤ B) : ORl lo hi w' a l := by
  rcases h with h | ⟨b, rfl, h1, h2, r⟩
  · exact .inl h
  · exact .inr ⟨b, rfl, h1, h2, VRow.byL r (hb.block b (by omega))⟩
theorem OSl.keepL {lo hi : Nat} {w w' : World} {a : Option Addr} {l : List Int} (h : OSl lo hi w a l) (hk : ∀ i, lo ≤ i → i < w.heap.size → w'.heap[i]? = w.heap[i]?) : OSl lo hi w' a l := by
  rcases h with h | ⟨b, rfl, h1, h2, r⟩
  · exact .inl h
  · exact .inr ⟨b, rfl, h1, h2, by obtain ⟨cur, hB, q⟩ := r; exact ⟨cur, (hk b h1 (Blk.lt hB)).trans hB, q⟩⟩
theorem OXl.oxL {lo hi : Nat} {w : World} {a : Option Addr} {l : List Rl} (h : OXl lo hi w a l) : OX w a l := by
  rcases h with h | ⟨b, rfl, h1, h2, r⟩
  · exact .inl h
  · exact .inr ⟨b, rfl, r⟩
theorem stoL {w : World} {B : Nat} {a b : Value} {t : TypeId} (h : Blk w B #[a, b] t) (x y : Value) : Blk ((w.setCell ⟨B, 0, none⟩ x).setCell ⟨B, 1, none⟩ y) B #[x, y] t := by
  have := (h.set (i := 0) x).set (i := 1) y
  simp only [List.setIfInBounds_toArray, List.set_cons_zero, List.set_cons_succ] at this
  exact this
theorem belowOffL {w w' : World} {m B : Nat} (h : Below m w w') (hB : m ≤ B) (x y : Value) : Below m w ((w'.setCell ⟨B, 0, none⟩ x).setCell ⟨B, 1, none⟩ y) := (h.setCell (p := ⟨B, 0, none⟩) hB x).setCell (p := ⟨B, 1, none⟩) hB y
theorem wp_pushXL {ops : Array Oper} {rest : List Oper} {o : Oper} {a : Act} {Q : Exit → Act → World → Prop} (hgd : o.guard = none) (s x : Operand)
    (ho : o.op = .call { callee := .builtin .append, args := #[s, x], argTypes := #[29, 29] })
    (base : Nat) (v : Value) (l : List Rl) (hs : a.eval s = v) {w0 : World} (hown : OwnX w0 base v l) (u : Rl)
    {zz : Nat} (hx : a.eval x = .slice (some ⟨zz, 0, none⟩) 1 1) (hzz : w0.heap.size = zz) (hl : l.length ≤ 1048576) (hbase : base ≤ w0.heap.size)
    (h : ∀ v' w', OwnX w' base v' (l ++ [u]) → Below base w0 w' → (∀ k, k < w0.heap.size → v.ownBlock ≠ some k → w'.heap[k]? = w0.heap[k]?) → wpList Tryz.prog ops Q rest (a.put o.dst v') w') : wpList Tryz.prog ops Q (o :: rest) a (w0.alloc (.cells #[.int .i64 u.1, .int .i64 u.2] 35)) := by
  subst hzz
  obtain ⟨i0, hi, hz0, hz1, hz2⟩ := info_parts infoX9
  have hown0 : w0.ownsRow base 35 2 v l.length (rlsC l) := hown
  refine wpList_append_own _ hgd s x 29 ho base 35 i0 _ 2 16 Tryz.underlying29 hi hz0 hz1 hz2 rfl (by decide) v l.length (rlsC l) hs (hown0.alloc _) ⟨w0.heap.size, 0, none⟩ 1 1 (rlC u) hx (by simp [rlC])
    (World.news_of_block (cs := #[.int .i64 u.1, .int .i64 u.2]) (Blk.new w0 _ 35)) (fun y hy => by simp [rlC] at hy; rcases hy with rfl | rfl <;> rfl) (by unfold maxLen; omega) (by omega) (by simp; omega) ?_
  intro v' w' hown' hgrow _
  refine h v' w' ?_ (((Below.refl base w0).alloc hbase _).grown hgrow (by simp; omega) (fun k hk => (hown0.lt k hk).1)) (fun k hk hne => ?_)
  · show w'.ownsRow base 35 2 _ (l ++ [u]).length (rlsC (l ++ [u]))
    rw [List.length_append, rlsC_append]
    simpa [rlsC] using hown'
  · rw [hgrow.block k (by simp; omega) (fun hh => hne hh.symm), Below.heap_alloc _ _ _ hk]
theorem OwnX.inL {w : World} {base : Nat} {v : Value} {l : List Rl} (h : OwnX w base v l) : ∀ k, v.ownBlock = some k → k < w.heap.size := fun k hk => (World.ownsRow.lt h k hk).2
theorem lpV_lengthL (len : Nat) (bs : Nat → Int) : ∀ (m : Nat) (xs ys : List Int) (st : Nat × Int), (lpV len bs m xs ys st).1.1.length = xs.length ∧ (lpV len bs m xs ys st).1.2.length = ys.length
  | 0, xs, ys, st => ⟨rfl, rfl⟩
  | m + 1, xs, ys, st => by
    unfold lpV
    split
    · have q := lpV_lengthL len bs m (fxL xs) (fxL ys) (nxV len bs st 8).2
      rw [fxL_length, fxL_length] at q
      exact q
    · exact ⟨rfl, rfl⟩
theorem qlV_lengthL (len : Nat) (bs : Nat → Int) : (qlV len bs).2.1.length ≤ 25 ∧ (qlV len bs).2.2.length ≤ 25 := by
  have hb := (dv_bnd len bs (frS len bs)).2
  unfold qlV ldV
  dsimp only
  rw [(lpV_lengthL len bs 2 _ _ _).1, (lpV_lengthL len bs 2 _ _ _).2]
  exact ⟨(dlV_length _ _ _ _ _ hb.1).2, (dlV_length _ _ _ _ _ hb.1).2⟩
theorem dv_small (len : Nat) (bs : Nat → Int) (st : Nat × Int) : ((dvV len bs st).1.2.1 ≤ 3 ∧ (dvV len bs st).1.2.2.1 ≤ 3) ∨ (dvV len bs st).1.2.1 = 0 ∨ (dvV len bs st).1.2.1 = 16 ∨ ((dvV len bs st).1.2.1 = 15 ∧ (dvV len bs st).1.2.2.1 = 6) := by
  unfold dvV
  have h1 := nx_bnd len bs st 3
  have h2 := nx_bnd len bs (nxV len bs st 3).2 3
  have h5 := nx_bnd len bs (nxV len bs (nxV len bs (nxV len bs (nxV len bs st 3).2 3).2 3).2 24).2 2
  dsimp only
  split
  · dsimp only
    omega
  · split
    · dsimp only
      omega
    · split
      · dsimp only
        omega
      · dsimp only
        omega
theorem cnt_many : 500 < cnt 6 15 := by
  have h1 : ∀ n k, k = n + 1 → cnt n 15 ≤ cnt k 15 := fun n k e => by
    subst e
    rw [show (15 : Nat) = 14 + 1 from rfl, cnt_step]
    omega
  have a1 : ∀ m, cnt 1 m = m + 1 := fun m => by
    induction m with
    | zero => exact cnt_base 1
    | succ m ih => rw [show (1 : Nat) = 0 + 1 from rfl, cnt_step, show (0 : Nat) + 1 = 1 from rfl, ih, cnt_zero]; omega
  have s2 : ∀ m k, k = m + 1 → cnt 2 k = k + 1 + cnt 2 m := fun m k e => by
    subst e
    rw [show (2 : Nat) = 1 + 1 from rfl, cnt_step, show (1 : Nat) + 1 = 2 from rfl, a1]
  have s3 : ∀ m k, k = m + 1 → cnt 3 k = cnt 2 k + cnt 3 m := fun m k e => by
    subst e
    rw [show (3 : Nat) = 2 + 1 from rfl, cnt_step]
  have b2 := cnt_base 2
  have b3 := cnt_base 3
  have := s2 0 1 rfl; have := s2 1 2 rfl; have := s2 2 3 rfl; have := s2 3 4 rfl; have := s2 4 5 rfl; have := s2 5 6 rfl; have := s2 6 7 rfl; have := s2 7 8 rfl; have := s2 8 9 rfl; have := s2 9 10 rfl; have := s2 10 11 rfl; have := s2 11 12 rfl; have := s2 12 13 rfl; have := s2 13 14 rfl; have := s2 14 15 rfl
  have := s3 0 1 rfl; have := s3 1 2 rfl; have := s3 2 3 rfl; have := s3 3 4 rfl; have := s3 4 5 rfl; have := s3 5 6 rfl; have := s3 6 7 rfl; have := s3 7 8 rfl; have := s3 8 9 rfl; have := s3 9 10 rfl; have := s3 10 11 rfl; have := s3 11 12 rfl; have := s3 12 13 rfl; have := s3 13 14 rfl; have := s3 14 15 rfl
  have := h1 3 4 rfl
  have := h1 4 5 rfl
  have := h1 5 6 rfl
  omega
theorem ql_small {len : Nat} {bs : Nat → Int} {p c h s : Int} {xs ys : List Int} (hq : qlV len bs = ((p, c, h, s), xs, ys)) (e : ocE p c h s xs ys = 0) : Sm p c h s := by
  obtain ⟨S, rfl, hS, hx, hy, hcn, -⟩ := rc_ready (rcE_zero (ocE_zero e).1).1
  obtain ⟨-, -, -, -, -, c1, c2, -⟩ := hx.po
  have hd := dv_small len bs (frS len bs)
  have ha := nx_bnd len bs (dvV len bs (frS len bs)).2 2
  unfold qlV ldV at hq
  dsimp only at hq
  simp only [Prod.mk.injEq] at hq
  obtain ⟨⟨q1, q2, q3, q4⟩, -, -⟩ := hq
  rw [q2, q3] at hd
  have hs3 : (S : Int) ≤ 3 := by omega
  rcases hd with ⟨d1, d2⟩ | d1 | d1 | ⟨d1, d2⟩
  · exact ⟨d1, d2, hs3⟩
  · omega
  · omega
  · subst d1 d2
    have := cnt_many
    have e1 : (6 : Int).toNat = 6 := rfl
    have e2 : (15 : Int).toNat = 15 := rfl
    rw [e1, e2] at hcn
    omega
set_option maxRecDepth 8000 in
set_option maxHeartbeats 4000000 in
theorem fnLuck_walk (a : Option Addr) (len cap : Nat) (w : World) (hcode : CodeIn w.heap.size w a len) :
    Calls Tryz.prog 3 #[.slice a len cap] w fun e w' => e = .returned (.bool true) ∧ Below w.heap.size w w' := by
  by_cases hbig : 4096 < len
  · have f0 : decide (4096 < (len : Int)) = true := by simp; omega
    go_enter Tryz.func3, Tryz.ntmps3
    go_wp2_with fail
    refine (bigR_any _ _ _ _).mono ?_
    rintro e w1 ⟨rfl, rfl⟩
    go_wp2
    go_ret
    exact ⟨rfl, Below.refl _ _⟩
  · have f0 : decide (4096 < (len : Int)) = false := by simp; omega
    go_enter Tryz.func3, Tryz.ntmps3
    go_wp2_with fail
    refine (bigR_any _ _ _ _).mono ?_
    rintro e w0 ⟨rfl, rfl⟩
    go_wp2_with fail
    obtain ⟨bs, hcs⟩ := hcode.is
    have hD0 := fun W (hb : Below w.heap.size w W) => drawRollChD_any w.heap.size a len cap W hb.size (by omega) bs (hcs.below hb)
    have hln := qlV_lengthL len bs
    have hsm := fun p c h s xs ys => @ql_small len bs p c h s xs ys
    obtain ⟨⟨⟨p, c, h, s⟩, xs, ys⟩, hq⟩ : ∃ q, qlV len bs = q := ⟨_, rfl⟩
    rw [hq] at hD0 hln
    dsimp only at hln
    obtain ⟨hxl, hyl⟩ := hln
    have hD : ∀ W, Below w.heap.size w W → Calls Tryz.prog 6 #[.slice a len cap] W fun e w' => ∃ (aL aM : Option Addr) (kL kM m n : Nat), e = .returned (.tuple #[.agg #[.int .i64 p, .int .i64 c, .int .i64 h, .int .i64 s], .slice aL xs.length kL, .slice aM ys.length kM]) ∧ OSl W.heap.size m w' aL xs ∧ OSl m n w' aM ys ∧ W.heap.size ≤ m ∧ n ≤ w'.heap.size ∧ xs.length ≤ kL ∧ ys.length ≤ kM ∧ Below W.heap.size W w' := hD0
    have HD := Lib.hid hD
    replace hsm := hsm p c h s xs ys hq
    clear hbig f0 hcode hcs hD hD0 hq
    have hi := fun (W : World) (b1 b2 : Option Addr) (k1 k2 : Nat) (r1 : IRow W b1 xs) (r2 : IRow W b2 ys) => rollChances_any p c h s b1 b2 xs.length ys.length k1 k2 xs ys W rfl rfl (by omega) (by omega) r1 r2
    have hs := fun (W : World) (b1 b2 : Option Addr) (k1 k2 : Nat) (q1 : xs.length ≤ k1) (q2 : ys.length ≤ k2) (r1 : IRow W b1 xs) (r2 : IRow W b2 ys) => specRollChances_any p c h s b1 b2 xs.length ys.length k1 k2 xs ys W rfl rfl (by omega) (by omega) q1 q2 r1 r2
    have hll := fun (e : ocE p c h s xs ys = 0) => luck_all (hsm e) e
    have hno : ocE p c h s xs ys ≠ 0 → (rlcV p c h s xs ys).2 ≠ 0 := fun e => by unfold rlcV; rw [if_neg e]; exact e
    have hvv : ocE p c h s xs ys = 0 → vB p c h s = true := fun e => by
      obtain ⟨S, rfl, -, hx, -⟩ := rc_ready (rcE_zero (ocE_zero e).1).1
      exact (okP_v hx).1
    obtain ⟨⟨X, cc⟩, hXc⟩ : ∃ r, rlcV p c h s xs ys = r := ⟨_, rfl⟩
    rw [hXc] at hi hs hll hno
    unfold XGot at hi hs
    dsimp only at hi hs hno
    have HI := Lib.hid hi
    have HS := Lib.hid hs
    have HLL := Lib.hid hll
    have HNO := Lib.hid hno
    have HVV := Lib.hid hvv
    clear hi hs hll hno hvv hXc hsm
    refine (HD.out _ (Below.refl _ _)).mono ?_
    rintro e w1 ⟨aL, aM, kL, kM, m, n, rfl, hO, hP, -, -, -, -, hb⟩
    have hw1 := hb.size
    have BV := Blk.new w1 #[.int .i64 p, .int .i64 c, .int .i64 h, .int .i64 s] 25
    have rx := hO.irow.alloc (.cells #[.int .i64 p, .int .i64 c, .int .i64 h, .int .i64 s] 25)
    have ry := hP.irow.alloc (.cells #[.int .i64 p, .int .i64 c, .int .i64 h, .int .i64 s] 25)
    replace hb := chain_alloc hb (.cells #[.int .i64 p, .int .i64 c, .int .i64 h, .int .i64 s] 25)
    clear hO hP
    obtain ⟨bv, hbv⟩ : ∃ bv, w1.heap.size = bv := ⟨_, rfl⟩
    have hbw : w.heap.size ≤ bv := by omega
    obtain ⟨x0, x1, x2, x3, xf, xl⟩ := BV.four
    go_wp2_with fail
    (try rw [hbv] at BV x0 x1 x2 x3 xf xl)
    (try rw [hbv])
    generalize (w1.alloc (.cells #[.int .i64 p, .int .i64 c, .int .i64 h, .int .i64 s] 25)) = w2 at *
    refine (HI.out _ _ _ _ _ rx ry).mono ?_
    rintro e w3 ⟨aX, kX, rfl, oX, hb3⟩
    clear x0 x1 x2 x3 xf xl
    have hbl := BV.lt
    have hw3 := hb3.size
    replace BV := BV.below hb3
    replace hb := chain hb hb3
    clear rx ry hb3 HI
    obtain ⟨lX, hlX⟩ : ∃ l, w2.heap.size = l := ⟨_, rfl⟩
    rw [hlX] at oX hbl hw3
    obtain ⟨uX, huX⟩ : ∃ l, w3.heap.size = l := ⟨_, rfl⟩
    rw [huX] at oX
    go_wp2_with fail
    refine (HD.out _ hb).mono ?_
    rintro e w5 ⟨aL2, aM2, kL2, kM2, m2, n2, rfl, hO, hP, hm2, hn2, hkL, hkM, hb5⟩
    have hw5 := hb5.size
    replace oX := oX.below hb5
    replace BV := BV.below hb5
    replace hb := chain hb hb5
    have hO6 := ((((hO.setLo (g := bv) (o := 0) (v := .int .i64 p) (by omega)).setLo (g := bv) (o := 1) (v := .int .i64 c) (by omega)).setLo (g := bv) (o := 2) (v := .int .i64 h) (by omega)).setLo (g := bv) (o := 3) (v := .int .i64 s) (by omega))
    have hP6 := ((((hP.setLo (g := bv) (o := 0) (v := .int .i64 p) (by omega)).setLo (g := bv) (o := 1) (v := .int .i64 c) (by omega)).setLo (g := bv) (o := 2) (v := .int .i64 h) (by omega)).setLo (g := bv) (o := 3) (v := .int .i64 s) (by omega))
    have rx := hO6.irow
    have ry := hP6.irow
    have oXn := ((((oX.setLo (g := bv) (o := 0) (v := .int .i64 p) (by omega)).setLo (g := bv) (o := 1) (v := .int .i64 c) (by omega)).setLo (g := bv) (o := 2) (v := .int .i64 h) (by omega)).setLo (g := bv) (o := 3) (v := .int .i64 s) (by omega))
    have BVn := BV.put4 (.int .i64 p) (.int .i64 c) (.int .i64 h) (.int .i64 s)
    have hb6 := ((((hb.setCell (p := ⟨bv, 0, none⟩) hbw (.int .i64 p)).setCell (p := ⟨bv, 1, none⟩) hbw (.int .i64 c)).setCell (p := ⟨bv, 2, none⟩) hbw (.int .i64 h)).setCell (p := ⟨bv, 3, none⟩) hbw (.int .i64 s))
    obtain ⟨x0, x1, x2, x3, xf, xl⟩ := BV.four
    obtain ⟨s0, s1, s2, s3, sf, sl⟩ := BVn.four
    clear hO hP hO6 hP6 hm2 hn2 hb5 hb oX
    go_wp2_with fail
    clear x0 x1 x2 x3 xf xl
    clear s0 s1 s2 s3 sf sl BV
    have hs6 : w5.heap.size ≤ ((((w5.setCell ⟨bv, 0, none⟩ (.int .i64 p)).setCell ⟨bv, 1, none⟩ (.int .i64 c)).setCell ⟨bv, 2, none⟩ (.int .i64 h)).setCell ⟨bv, 3, none⟩ (.int .i64 s)).heap.size := by simp [World.setCell]
    generalize ((((w5.setCell ⟨bv, 0, none⟩ (.int .i64 p)).setCell ⟨bv, 1, none⟩ (.int .i64 c)).setCell ⟨bv, 2, none⟩ (.int .i64 h)).setCell ⟨bv, 3, none⟩ (.int .i64 s)) = w6 at *
    refine (HS.out _ _ _ _ _ hkL hkM rx ry).mono ?_
    rintro e w7 ⟨aY, kY, rfl, oY, hb7⟩
    have hw7 := hb7.size
    have BV := BVn.below hb7
    replace rx := rx.below hb7
    replace ry := ry.below hb7
    have oX := oXn.below hb7
    have hb := chain hb6 hb7
    clear BVn oXn hb6 hb7 HS hkL hkM
    by_cases ca : cc = 0
    · obtain rfl : cc = 0 := ca
      have hoc : ocE p c h s xs ys = 0 := by
        rcases Int.decEq (ocE p c h s xs ys) 0 with q | q
        · exact absurd rfl (HNO.out q)
        · exact q
      have hv := HVV.out hoc
      obtain ⟨X0, Z, ea, eb, e1, e2, e3, e36, e4, e5, e6, e7, e8, e9⟩ := HLL.out hoc
      simp only [Prod.mk.injEq, and_true] at e1
      obtain rfl := e1
      have har := fun W => specAllRolls_any p c h s W
      unfold arL at har
      rw [if_pos hv] at har
      obtain ⟨R, hR⟩ : ∃ R, rollsTo s.toNat = R := ⟨_, rfl⟩
      rw [hR] at e2 e3 e36 e4 har
      have hlk0 := fun (ra rb : Int) (W : World) (b1 b2 : Option Addr) (k1 k2 : Nat) (r1 : IRow W b1 xs) (r2 : IRow W b2 ys) => raceLuck_any p c h s b1 b2 xs.length ys.length k1 k2 xs ys ra rb W rfl rfl (by omega) (by omega) r1 r2
      have hwc := fun (W : World) (b1 b2 : Option Addr) (k1 k2 : Nat) (r1 : IRow W b1 xs) (r2 : IRow W b2 ys) => winChance_any p c h s b1 b2 xs.length ys.length k1 k2 xs ys W rfl rfl (by omega) (by omega) r1 r2
      rw [e7] at hwc
      dsimp only [xoV] at hwc
      have hm1 := fun (W : World) (r : OX W aX X) => specMeanExact_any p c h s aX kX X W (by omega) r (fun x hx => by have := e8 x hx; omega)
      rw [e5] at hm1
      dsimp only [xoV] at hm1
      have hm2 := fun (va : Option Addr) (kv : Nat) (W : World) (r : OX W va Z) => specMeanExact_any p c h s va kv Z W (by omega) r (fun x hx => by have := e9 x hx; omega)
      rw [e6] at hm2
      dsimp only [xoV] at hm2
      have HLK0 := Lib.hid hlk0
      have HWC := Lib.hid hwc
      have HM1 := Lib.hid hm1
      have HM2 := Lib.hid hm2
      have HAR := Lib.hid har
      have HE4 := Lib.hid e4
      have HE2 := Lib.hid e2
      have HE3 := Lib.hid e3
      clear hlk0 hwc hm1 hm2 har e2 e3 e4 e5 e6 e7 e8 e9 hR HNO HLL HVV hv hoc
      obtain ⟨x0, x1, x2, x3, xf, xl⟩ := BV.four
      go_wp2_with fail
      clear x0 x1 x2 x3 xf xl
      refine (HAR.out _).mono ?_
      rintro e w8 ⟨aR, kR, rfl, oR, hb8⟩
      have hw8 := hb8.size
      replace BV := (BV.below hb8).alloc (.cells #[] 35)
      replace rx := (rx.below hb8).alloc (.cells #[] 35)
      replace ry := (ry.below hb8).alloc (.cells #[] 35)
      replace oX := (oX.below hb8).alloc (.cells #[] 35)
      replace oY := (oY.below hb8).alloc (.cells #[] 35)
      replace oR := oR.alloc (.cells #[] 35)
      replace hb := chain hb hb8
      have hbw8 := hb.size
      replace hb := chain_alloc hb (.cells #[] 35)
      have hOw := OwnX.start w8
      have hbs : w8.heap.size ≤ (w8.alloc (.cells #[] 35)).heap.size := by simp
      clear hb8 HAR
      obtain ⟨base, hbase⟩ : ∃ l, w8.heap.size = l := ⟨_, rfl⟩
      rw [hbase] at hOw hw8 oR hbs hbw8
      replace oX := oX.mono (Nat.le_refl lX) (show uX ≤ base by omega)
      replace oY := oY.mono (show lX ≤ w6.heap.size by omega) (show w7.heap.size ≤ base by omega)
      replace oR := oR.mono (show lX ≤ w7.heap.size by omega) (Nat.le_refl base)
      have hlb : lX ≤ base := by omega
      go_wp2_with fail
      (try rw [hbase])
      generalize (w8.alloc (.cells #[] 35)) = w9 at *
      clear hs6 hw7 hw5 hw8 hw3 hlX huX hbase
      go_loopg [4, 5, 11, 12] R.length (fun mm q4 q5 q11 q12 wr => ∃ (k : Nat) (aP aQ : Option Addr) (kP kQ : Nat), k ≤ R.length ∧ mm = R.length - k ∧ q12 = .int .i64 k ∧ q4 = .slice aP xs.length kP ∧ q5 = .slice aQ ys.length kQ ∧ IRow wr aP xs ∧ IRow wr aQ ys ∧ Blk wr bv #[.int .i64 p, .int .i64 c, .int .i64 h, .int .i64 s] 25 ∧ OXl lX base wr aX X ∧ OXl lX base wr aY X ∧ ORl lX base wr aR R ∧ OwnX wr base q11 (Z.take k) ∧ base ≤ wr.heap.size ∧ Below w.heap.size w wr)
      case atStart => exact ⟨0, aL2, aM2, kL2, kM2, by omega, by omega, rfl, rfl, rfl, rx, ry, BV, oX, oY, oR, hOw, hbs, hb⟩
      case round =>
        clear rx ry BV oX oY oR hOw hb hbs
        obtain ⟨k, aP, aQ, kP, kQ, hk, hmm, rfl, rfl, rfl, rx, ry, BV, oX, oY, oR, hO, hbs, hb⟩ := hrel
        by_cases hlt : k < R.length
        · have hlt' : (k : Int) < (R.length : Int) := by omega
          have hltN : k < X.length := by rw [HE2.out]; exact hlt
          have hltX : (k : Int) < (X.length : Int) := by omega
          have hk0 : (0 : Int) ≤ (k : Int) := by omega
          obtain ⟨gR, rfl, hRR⟩ := oR.row hlt
          obtain ⟨gX, rfl, hRX⟩ := oX.row hltN
          obtain ⟨gY, rfl, hRY⟩ := oY.row hltN
          obtain ⟨⟨ra, rb⟩, hrk⟩ : ∃ r, R[k]? = some r := ⟨_, List.getElem?_eq_getElem hlt⟩
          obtain ⟨⟨zn, zd⟩, hz⟩ : ∃ r, Z[k]? = some r := ⟨_, List.getElem?_eq_getElem (by rw [HE3.out]; exact hlt)⟩
          obtain ⟨⟨xn, xd⟩, hx⟩ : ∃ r, X[k]? = some r := ⟨_, List.getElem?_eq_getElem hltN⟩
          have hlk := HLK0.out ra rb
          rw [HE4.out k (ra, rb) (zn, zd) hrk hz] at hlk
          dsimp only [xoV] at hlk
          have HLK := Lib.hid hlk
          have HRK := Lib.hid hrk
          have HZ := Lib.hid hz
          have HX := Lib.hid hx
          clear hlk hrk hz hx hRX hRY
          obtain ⟨x0, x1, x2, x3, xf, xl⟩ := BV.four
          obtain ⟨r0, r1⟩ := RRow.two hRR k (ra, rb) HRK.out
          dsimp only at r0 r1
          go_upto_region 16 with (fail)
          clear x0 x1 x2 x3 xf xl r0 r1
          go_cut [13, 14] from 64 to 109 (fun q13 q14 wq => ∃ g, q13 = .pointer (some ⟨g, 0, none⟩) ∧ q14 = .int .i64 0 ∧ wr.heap.size ≤ g ∧ Blk wq g #[.int .i64 zn, .int .i64 zd] 35 ∧ Below wr.heap.size wr wq)
          case first =>
            refine wp_region_held_drew (S := fun w' => w'.cell? ⟨bv, 0, none⟩ = some (.int .i64 p) ∧ w'.cell? ⟨bv, 1, none⟩ = some (.int .i64 c) ∧ w'.cell? ⟨bv, 2, none⟩ = some (.int .i64 h) ∧ w'.cell? ⟨bv, 3, none⟩ = some (.int .i64 s) ∧ w'.cell? ⟨gR, k * 2, none⟩ = some (.int .i64 ra) ∧ w'.cell? ⟨gR, k * 2 + 1, none⟩ = some (.int .i64 rb)) (by kernel_rfl) ⟨BV.four.1, BV.four.2.1, BV.four.2.2.1, BV.four.2.2.2.1, (RRow.two hRR k (ra, rb) HRK.out).1, (RRow.two hRR k (ra, rb) HRK.out).2⟩ (fun hHeld => ?_)
            clear hHeld
            have hbS : Below wr.heap.size wr wr.drew := (Below.refl _ _).drew
            generalize wr.drew = vd at *
            have hHeld : vd.cell? ⟨bv, 0, none⟩ = some (.int .i64 p) ∧ vd.cell? ⟨bv, 1, none⟩ = some (.int .i64 c) ∧ vd.cell? ⟨bv, 2, none⟩ = some (.int .i64 h) ∧ vd.cell? ⟨bv, 3, none⟩ = some (.int .i64 s) ∧ vd.cell? ⟨gR, k * 2, none⟩ = some (.int .i64 ra) ∧ vd.cell? ⟨gR, k * 2 + 1, none⟩ = some (.int .i64 rb) := ⟨(BV.below hbS).four.1, (BV.below hbS).four.2.1, (BV.below hbS).four.2.2.1, (BV.below hbS).four.2.2.2.1, (RRow.two (VRow.below hRR hbS) k (ra, rb) HRK.out).1, (RRow.two (VRow.below hRR hbS) k (ra, rb) HRK.out).2⟩
            refine tk 0 77 ?_
            refine tk 1 78 ?_
            refine tk 2 79 ?_
            refine tk 3 80 ?_
            refine tk 4 81 ?_
            refine tk 5 82 ?_
            refine tk 6 83 ?_
            refine wpAnyH_ready (rs := [7, 11]) (by kernel_rfl) (by simp) ?_
            refine AllReadyH.cons (o := ⟨some 84, _, _, _, _, _⟩) rfl (fun K hK => ?_) (AllReadyH.cons (o := ⟨some 13, _, _, _, _, _⟩) rfl (fun K hK => ?_) AllReadyH.nil)
            · go_simp
              refine (HLK.out _ _ _ _ _ (rx.below hbS) (ry.below hbS)).mono ?_
              rintro e w6 ⟨rfl, hb6⟩
              replace hbS := chain hbS hb6
              clear hb6
              (try go_wp2_with fail)
              refine hko hK (Blk.f4 (BV.below hbS) ⟨(RRow.two (VRow.below hRR hbS) k (ra, rb) HRK.out).1, (RRow.two (VRow.below hRR hbS) k (ra, rb) HRK.out).2⟩) fun hHeld => ?_
              clear hK K
              refine tk 8 76 ?_
              refine tk 9 85 ?_
              refine tk 10 86 ?_
              refine rdk 11 13 fun K hK => ?_
              go_simp
              (try go_wp2_with fail)
              refine hko hK (Blk.f4 (BV.below (chain_alloc hbS (.cells #[.int .i64 0, .int .i64 0] 35))) ⟨(RRow.two (VRow.below hRR (chain_alloc hbS (.cells #[.int .i64 0, .int .i64 0] 35))) k (ra, rb) HRK.out).1, (RRow.two (VRow.below hRR (chain_alloc hbS (.cells #[.int .i64 0, .int .i64 0] 35))) k (ra, rb) HRK.out).2⟩) fun hHeld => ?_
              clear hK K
              have B8 := Blk.new w6 #[.int .i64 0, .int .i64 0] 35
              have h8 : wr.heap.size ≤ w6.heap.size := hbS.size
              replace hbS := chain_alloc hbS (.cells #[.int .i64 0, .int .i64 0] 35)
              generalize w6.alloc (.cells #[.int .i64 0, .int .i64 0] 35) = wA at *
              generalize w6.heap.size = g8 at *
              refine rdn 12 fun K hK => ?_
              clear hHeld
              obtain ⟨z0, z1, zf, zl⟩ := B8.two
              have Shb := belowOffL hbS (B := g8) (by omega) (.int .i64 zn) (.int .i64 zd)
              have SB8 := stoL B8 (.int .i64 zn) (.int .i64 zd)
              go_simp
              (try go_wp2_with fail)
              refine hko hK (Blk.f4 (BV.below Shb) ⟨(RRow.two (VRow.below hRR Shb) k (ra, rb) HRK.out).1, (RRow.two (VRow.below hRR Shb) k (ra, rb) HRK.out).2⟩) fun hHeld => ?_
              clear hK K
              clear z0 z1 zf zl hbS B8
              generalize ((wA.setCell ⟨g8, 0, none⟩ (.int .i64 zn)).setCell ⟨g8, 1, none⟩ (.int .i64 zd)) = wS at *
              have hbS := Shb
              have B8 := SB8
              clear Shb SB8
              refine tk 13 14 ?_
              refine wpAnyH_done (by kernel_rfl) ?_ _
              clear hHeld
              (try go_wp2_with fail)
              go_meet
              case rel => exact ⟨g8, rfl, rfl, h8, B8, hbS⟩
            · go_simp
              (try go_wp2_with fail)
              refine hko hK (Blk.f4 (BV.below (chain_alloc hbS (.cells #[.int .i64 0, .int .i64 0] 35))) ⟨(RRow.two (VRow.below hRR (chain_alloc hbS (.cells #[.int .i64 0, .int .i64 0] 35))) k (ra, rb) HRK.out).1, (RRow.two (VRow.below hRR (chain_alloc hbS (.cells #[.int .i64 0, .int .i64 0] 35))) k (ra, rb) HRK.out).2⟩) fun hHeld => ?_
              clear hK K
              have B8 := Blk.new vd #[.int .i64 0, .int .i64 0] 35
              have h8 : wr.heap.size ≤ vd.heap.size := hbS.size
              replace hbS := chain_alloc hbS (.cells #[.int .i64 0, .int .i64 0] 35)
              generalize vd.alloc (.cells #[.int .i64 0, .int .i64 0] 35) = wA at *
              generalize vd.heap.size = g8 at *
              refine rdk 7 84 fun K hK => ?_
              go_simp
              refine (HLK.out _ _ _ _ _ (rx.below hbS) (ry.below hbS)).mono ?_
              rintro e w6 ⟨rfl, hb6⟩
              replace B8 := B8.below hb6
              replace hbS := chain hbS hb6
              clear hb6
              (try go_wp2_with fail)
              refine hko hK (Blk.f4 (BV.below hbS) ⟨(RRow.two (VRow.below hRR hbS) k (ra, rb) HRK.out).1, (RRow.two (VRow.below hRR hbS) k (ra, rb) HRK.out).2⟩) fun hHeld => ?_
              clear hK K
              refine tk 8 76 ?_
              refine tk 9 85 ?_
              refine tk 10 86 ?_
              refine rdn 12 fun K hK => ?_
              clear hHeld
              obtain ⟨z0, z1, zf, zl⟩ := B8.two
              have Shb := belowOffL hbS (B := g8) (by omega) (.int .i64 zn) (.int .i64 zd)
              have SB8 := stoL B8 (.int .i64 zn) (.int .i64 zd)
              go_simp
              (try go_wp2_with fail)
              refine hko hK (Blk.f4 (BV.below Shb) ⟨(RRow.two (VRow.below hRR Shb) k (ra, rb) HRK.out).1, (RRow.two (VRow.below hRR Shb) k (ra, rb) HRK.out).2⟩) fun hHeld => ?_
              clear hK K
              clear z0 z1 zf zl hbS B8
              generalize ((w6.setCell ⟨g8, 0, none⟩ (.int .i64 zn)).setCell ⟨g8, 1, none⟩ (.int .i64 zd)) = wS at *
              have hbS := Shb
              have B8 := SB8
              clear Shb SB8
              refine tk 13 14 ?_
              refine wpAnyH_done (by kernel_rfl) ?_ _
              clear hHeld
              (try go_wp2_with fail)
              go_meet
              case rel => exact ⟨g8, rfl, rfl, h8, B8, hbS⟩
          case rest =>
            obtain ⟨g, rfl, rfl, hg, B13, hbS⟩ := hcut
            have hbv := BV.lt
            have hwS := hbS.size
            replace BV := BV.below hbS
            replace oX := oX.below hbS
            replace oY := oY.below hbS
            replace oR := oR.below hbS
            replace hO := hO.below hbS
            replace hb := chain hb hbS
            clear rx ry hRR hbS HLK
            have hin := hO.inL
            go_wp2_with fail
            refine (HD.out _ hb).mono ?_
            rintro e w5 ⟨aL3, aM3, kL3, kM3, m3, n3, rfl, hO5, hP5, hm3, hn3, -, -, hb5⟩
            have hw5 := hb5.size
            replace BV := BV.below hb5
            replace B13 := B13.below hb5
            have hO6 := ((((hO5.setLo (g := bv) (o := 0) (v := .int .i64 p) (by omega)).setLo (g := bv) (o := 1) (v := .int .i64 c) (by omega)).setLo (g := bv) (o := 2) (v := .int .i64 h) (by omega)).setLo (g := bv) (o := 3) (v := .int .i64 s) (by omega))
            have hP6 := ((((hP5.setLo (g := bv) (o := 0) (v := .int .i64 p) (by omega)).setLo (g := bv) (o := 1) (v := .int .i64 c) (by omega)).setLo (g := bv) (o := 2) (v := .int .i64 h) (by omega)).setLo (g := bv) (o := 3) (v := .int .i64 s) (by omega))
            have oXn := (((((oX.below hb5).setLo (g := bv) (o := 0) (v := .int .i64 p) (by omega)).setLo (g := bv) (o := 1) (v := .int .i64 c) (by omega)).setLo (g := bv) (o := 2) (v := .int .i64 h) (by omega)).setLo (g := bv) (o := 3) (v := .int .i64 s) (by omega))
            have oYn := (((((oY.below hb5).setLo (g := bv) (o := 0) (v := .int .i64 p) (by omega)).setLo (g := bv) (o := 1) (v := .int .i64 c) (by omega)).setLo (g := bv) (o := 2) (v := .int .i64 h) (by omega)).setLo (g := bv) (o := 3) (v := .int .i64 s) (by omega))
            have oRn := (((((oR.below hb5).setLo (g := bv) (o := 0) (v := .int .i64 p) (by omega)).setLo (g := bv) (o := 1) (v := .int .i64 c) (by omega)).setLo (g := bv) (o := 2) (v := .int .i64 h) (by omega)).setLo (g := bv) (o := 3) (v := .int .i64 s) (by omega))
            have hOn := (((((hO.below hb5).setLo (g := bv) (o := 0) (v := .int .i64 p) (by omega)).setLo (g := bv) (o := 1) (v := .int .i64 c) (by omega)).setLo (g := bv) (o := 2) (v := .int .i64 h) (by omega)).setLo (g := bv) (o := 3) (v := .int .i64 s) (by omega))
            have B13n := ((((B13.other (g := bv) (o := 0) (v := .int .i64 p) (by omega)).other (g := bv) (o := 1) (v := .int .i64 c) (by omega)).other (g := bv) (o := 2) (v := .int .i64 h) (by omega)).other (g := bv) (o := 3) (v := .int .i64 s) (by omega))
            have BVn := BV.put4 (.int .i64 p) (.int .i64 c) (.int .i64 h) (.int .i64 s)
            replace hb := chain hb hb5
            have hb6 := ((((hb.setCell (p := ⟨bv, 0, none⟩) hbw (.int .i64 p)).setCell (p := ⟨bv, 1, none⟩) hbw (.int .i64 c)).setCell (p := ⟨bv, 2, none⟩) hbw (.int .i64 h)).setCell (p := ⟨bv, 3, none⟩) hbw (.int .i64 s))
            have hs6 : w5.heap.size = ((((w5.setCell ⟨bv, 0, none⟩ (.int .i64 p)).setCell ⟨bv, 1, none⟩ (.int .i64 c)).setCell ⟨bv, 2, none⟩ (.int .i64 h)).setCell ⟨bv, 3, none⟩ (.int .i64 s)).heap.size := by simp [World.setCell]
            obtain ⟨x0, x1, x2, x3, xf, xl⟩ := BV.four
            obtain ⟨s0, s1, s2, s3, sf, sl⟩ := BVn.four
            obtain ⟨gX2, egX, hRX⟩ := oXn.row hltN
            obtain ⟨gY2, egY, hRY⟩ := oYn.row hltN
            simp only [Option.some.injEq, Addr.mk.injEq, and_true] at egX egY
            obtain rfl := egX
            obtain rfl := egY
            obtain ⟨c0, c1⟩ := XRow.two hRX k (xn, xd) HX.out
            obtain ⟨d0, d1⟩ := XRow.two hRY k (xn, xd) HX.out
            dsimp only at c0 c1 d0 d1
            obtain ⟨t0, t1, tf, tl⟩ := B13n.two
            clear hO5 hP5 oX oY oR hO B13 hb hRX hRY
            go_upto_region 18 with (fail)
            clear x0 x1 x2 x3 xf xl s0 s1 s2 s3 sf sl BV
            generalize ((((w5.setCell ⟨bv, 0, none⟩ (.int .i64 p)).setCell ⟨bv, 1, none⟩ (.int .i64 c)).setCell ⟨bv, 2, none⟩ (.int .i64 h)).setCell ⟨bv, 3, none⟩ (.int .i64 s)) = w6 at *
            go_quiet (fail)
            have hLl : (Z.take k).length ≤ 1048576 := by
              rw [List.length_take]
              omega
            have hsz : base ≤ w6.heap.size := by omega
            go_wp2_with (at_builtin; go_loud (refine wp_pushXL rfl (.tmp 106) (.tmp 108) rfl base _ (Z.take k) rfl hOn (zn, zd) rfl (by first | rfl | simp) hLl hsz ?_; intro v2 wn hO9 hb9 hk9))
            replace hb9 : Below base w6 wn := (below_drewN (Below.refl base w6) _).trans hb9
            have rx9 := (hO6.keepL fun i h1 h2 => hk9 i h2 fun e => by have := hin i e; omega).irow
            have ry9 := (hP6.keepL fun i h1 h2 => hk9 i h2 fun e => by have := hin i e; omega).irow
            have BV9 : Blk wn bv #[.int .i64 p, .int .i64 c, .int .i64 h, .int .i64 s] 25 := (hb9.block bv (by omega)).trans BVn
            have hsn := hb9.size
            have hb9w := hb6.trans (hb9.mono (show w.heap.size ≤ base by omega))
            have hOz : OwnX wn base v2 (Z.take (k + 1)) := by
              rw [List.take_add_one, HZ.out]
              exact hO9
            go_roundg (R.length - (k + 1))
            case measure => omega
            case rel => exact ⟨k + 1, aL3, aM3, kL3, kM3, by omega, rfl, by go_num, rfl, rfl, rx9, ry9, BV9, oXn.belowL hb9 (Nat.le_refl _), oYn.belowL hb9 (Nat.le_refl _), oRn.belowL hb9 (Nat.le_refl _), hOz, by omega, hb9w⟩
        · obtain rfl : k = R.length := by omega
          have hZt : Z.take R.length = Z := List.take_of_length_le (by rw [HE3.out]; exact Nat.le_refl _)
          rw [hZt] at hO
          obtain ⟨vL, kv, rfl⟩ := hO.form
          have hOX := hO.ox
          have HE3N := Lib.hid hZt
          clear hO hZt oY oR
          obtain ⟨x0, x1, x2, x3, xf, xl⟩ := BV.four
          go_wp2_with fail
          clear x0 x1 x2 x3 xf xl
          refine (HM1.out _ oX.oxL).mono ?_
          rintro e w10 ⟨rfl, hb10⟩
          replace BV := (BV.below hb10).alloc (.cells #[.int .i64 ea, .int .i64 eb] 35)
          replace hOX := (hOX.below hb10).below ((Below.refl _ _).alloc (Nat.le_refl _) (.cells #[.int .i64 ea, .int .i64 eb] 35))
          replace rx := (rx.below hb10).alloc (.cells #[.int .i64 ea, .int .i64 eb] 35)
          replace ry := (ry.below hb10).alloc (.cells #[.int .i64 ea, .int .i64 eb] 35)
          have R1 := Blk.new w10 #[.int .i64 ea, .int .i64 eb] 35
          replace hb := chain_alloc (chain hb hb10) (.cells #[.int .i64 ea, .int .i64 eb] 35)
          clear hb10 HM1
          obtain ⟨x0, x1, x2, x3, xf, xl⟩ := BV.four
          go_wp2_with fail
          clear x0 x1 x2 x3 xf xl
          generalize (w10.alloc (.cells #[.int .i64 ea, .int .i64 eb] 35)) = w11 at *
          generalize w10.heap.size = r1g at *
          refine (HM2.out _ _ _ hOX).mono ?_
          rintro e w12 ⟨rfl, hb12⟩
          replace BV := (BV.below hb12).alloc (.cells #[.int .i64 0, .int .i64 0] 35)
          replace rx := (rx.below hb12).alloc (.cells #[.int .i64 0, .int .i64 0] 35)
          replace ry := (ry.below hb12).alloc (.cells #[.int .i64 0, .int .i64 0] 35)
          replace R1 := (R1.below hb12).alloc (.cells #[.int .i64 0, .int .i64 0] 35)
          have R2 := Blk.new w12 #[.int .i64 0, .int .i64 0] 35
          replace hb := chain_alloc (chain hb hb12) (.cells #[.int .i64 0, .int .i64 0] 35)
          clear hb12 HM2 hOX
          obtain ⟨x0, x1, x2, x3, xf, xl⟩ := BV.four
          go_wp2_with fail
          clear x0 x1 x2 x3 xf xl
          generalize (w12.alloc (.cells #[.int .i64 0, .int .i64 0] 35)) = w13 at *
          generalize w12.heap.size = r2g at *
          refine (HWC.out _ _ _ _ _ rx ry).mono ?_
          rintro e w14 ⟨rfl, hb14⟩
          replace R1 := (R1.below hb14).alloc (.cells #[.int .i64 ea, .int .i64 eb] 35)
          replace R2 := (R2.below hb14).alloc (.cells #[.int .i64 ea, .int .i64 eb] 35)
          have R3 := Blk.new w14 #[.int .i64 ea, .int .i64 eb] 35
          replace hb := chain_alloc (chain hb hb14) (.cells #[.int .i64 ea, .int .i64 eb] 35)
          clear hb14 HWC rx ry
          obtain ⟨y0, y1, yf, yl⟩ := R1.two
          obtain ⟨z0, z1, zf, zl⟩ := R2.two
          obtain ⟨u0, u1, uf, ul⟩ := R3.two
          go_wp2_with fail
          go_ret
          exact ⟨by simp, hb⟩
    · have fa : (cc == 0) = false := by rw [beq_eq_false_iff_ne]; exact ca
      have fa2 : (cc != 0) = true := by rw [bne, fa]; rfl
      clear ca HNO HLL HVV
      go_wp2_with fail
      go_ret
      exact ⟨by simp, hb⟩
set_option maxRecDepth 100000 in
theorem fnLuck_lifted (os : Os) (started : os.Started) (H : Type) (enc : TypeId × Value → H) :
    ReturnsInHanded {} Tryz.checked os 3 .any (Rows.fnLuckSpec.pre6 enc Tryz.prog Tryz.f3 Rows.fnLuckRow.domain false) (Rows.fnLuckSpec.post enc Tryz.prog Tryz.f3 false true false false) := by
  refine returnsInHanded_of_change (C := Tryz.checked) own started (by kernel_rfl) Tryz.func3
    (ChangeSpec.witness6 (enc := enc) (C := Tryz.checked) false ⟨#[], #[.slice none 0 0], []⟩ 8 (by kernel_rfl) (by kernel_rfl) (by kernel_rfl) (by kernel_rfl)) ?_
  intro W base args ds gs before hval0 hW hcnd _
  have hval : ∀ (j : Nat) t v, Tryz.f3.params[j]? = some t → args[j]? = some v → Value.okWide Tryz.prog W .any base t v := hval0
  have hW' := hW
  obtain ⟨p, q, hA0, hV, rfl, hfz, hnd⟩ := hW
  have hA : DataW.TrodAll enc Tryz.prog W 0 (fun _ => true) true Tryz.f3.params.toList args.toList ds p := hA0
  rw [Tryz.params3] at hA hval
  obtain ⟨v0, vs0, d0, ds0, p0, q0, hargs, rfl, rfl, h0, r0⟩ := trodAll_cons hA
  obtain ⟨rfl, rfl, rfl⟩ := trodAll_nil r0
  obtain rfl : args = #[v0] := by cases args; simp_all
  obtain ⟨rfl, rfl⟩ := trodVars_none hV
  have k0 := h0
  have lt0 : ∀ x ∈ p0, x.block < W.heap.size := by obtain ⟨m, hm⟩ := k0; exact DataW.trod_lt m _ _ _ hm
  obtain ⟨sa_0, sl_0, sc_0, rfl⟩ := okWide_slice Tryz.underlying22 (hval 0 22 v0 rfl rfl)
  have hcode_0 : CodeIn W.heap.size W sa_0 sl_0 := by
    obtain ⟨fuel, hf⟩ := h0
    rcases open_ints Tryz.underlying22 Tryz.underlying5 (by kernel_rfl) hf with ⟨hcs, _⟩ | ⟨x, l, c, zs, hcs, _, hl, hm, hz, _, hcell, hwz⟩
    · simp [Value.cells] at hcs
      obtain ⟨rfl, rfl, rfl⟩ := hcs
      intro i hi
      omega
    · simp [Value.cells] at hcs
      obtain ⟨rfl, rfl, rfl⟩ := hcs
      exact code_of_ints (by have hz2 := hz; simp at hz2; omega) trivial hcell hwz
  clear hA0 hval0
  refine (fnLuck_walk sa_0 sl_0 sc_0 W hcode_0).mono fun e W' ⟨he, bel⟩ => ?_
  subst he
  exact ⟨_, rfl, _, _, _, [], _, [], hW', trodAll_mk1 (shut_bool Tryz.underlying4 _), (trodAll_cons_mk (Below.trod laidOut (by kernel_rfl) (of_decide_eq_true (by kernel_rfl)) k0 bel lt0) trodAll_mk0), rfl, bel.frame _, fun h => by cases h⟩
theorem fnLuck_holds : Rows.FnLuckSaid :=
  OpenClaim.holds_of_wide 3 Tryz.f3 rfl rfl rfl rfl rfl rfl rfl ⟨rfl, rfl, rfl, rfl, rfl⟩ rfl rfl rfl rfl rfl (by kernel_rfl) Tryz.func3 (by kernel_rfl)
    (of_decide_eq_true (by kernel_rfl)) (by unfold Func.isWrapper; first | (rw [if_pos (by decide +kernel)]; kernel_rfl) | (rw [if_neg (by decide +kernel)]; exact ⟨rfl, rfl⟩))
    (fun os started H enc _ => fnLuck_lifted os started H enc)
end Go.Proofs.YtnlclmlnpkncoaaGreat
