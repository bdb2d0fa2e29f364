/- Texts of a proof, laid together: Contracts of the library's equality of slices of numbers, and of the program's equality of boards. Contracts of the program and of its model on the place of a play. The law's own helpers on steps: handed over, compared, marked. -/
import Derived.Test.YtaedcmmomenilaaY01
import Derived.Test.YtaedcmmomenilaaY24
import Derived.BigQuiet
import Derived.Laws.StructEq
import Derived.Test.YtaedcmmomenilaaY25
import Derived.Test.YtaedcmmomenilaaY19
import Derived.Test.YtaedcmmomenilaaY20
import Derived.Test.YtaedcmmomenilaaY04
namespace Go.Proofs.Ytaedcmmomenilaa
open Go.ChangeShapes Go.WideShapes Go.ChangeAt Go.RowKit
set_option linter.unusedVariables false
set_option linter.unusedSimpArgs false

set_option maxRecDepth 8000 in
set_option maxHeartbeats 1000000 in
theorem slicesEqual_any (a b : Option Addr) (n m c d : Nat) (xs us : List Int) (w : World) (h1 : xs.length = n) (h2 : us.length = m) (l1 : n ≤ 1048576) (l2 : m ≤ 1048576) (r : IRow w a xs) (s : IRow w b us) :
    Calls Try.prog 82 #[.slice a n c, .slice b m d] w fun e w' => e = .returned (.bool (decide (xs = us))) ∧ Below w.heap.size w w' := by
  obtain ⟨Q, hQ⟩ : ∃ Q, decide (xs = us) = Q := ⟨_, rfl⟩
  rw [hQ]
  have HQ := Lib.hid hQ
  clear hQ
  by_cases e : m = n
  · subst e
    go_enter Try.func82, Try.ntmps82
    go_wp2_with fail
    go_loopg [13, 5] m (fun k5 i j wr => ∃ k : Nat, k ≤ m ∧ k5 = m - k ∧ i = .int .i64 k ∧ (∀ q, q < k → xs.getD q 0 = us.getD q 0) ∧ Below w.heap.size w wr)
    case atStart => exact ⟨0, by omega, by omega, rfl, fun j hj => by omega, Below.refl _ _⟩
    case round =>
      obtain ⟨k, hk, hm, rfl, hsm, hbel⟩ := hrel
      by_cases hlt : k < m
      · have hlt' : (k : Int) < (m : Int) := by omega
        have hk0 : (0 : Int) ≤ (k : Int) := by omega
        obtain ⟨p1, o1, rfl, hc1⟩ := (r.below hbel) k (by omega)
        obtain ⟨p2, o2, rfl, hc2⟩ := (s.below hbel) k (by omega)
        obtain ⟨v1, hv1⟩ : ∃ v, xs.getD k 0 = v := ⟨_, rfl⟩
        obtain ⟨v2, hv2⟩ : ∃ v, us.getD k 0 = v := ⟨_, rfl⟩
        rw [hv1] at hc1
        rw [hv2] at hc2
        by_cases e : v1 = v2
        · subst e
          have HSM := Lib.hid hsm
          have HV1 := Lib.hid hv1
          have HV2 := Lib.hid hv2
          clear hsm hv1 hv2
          go_wp2_with fail
          go_quiet (fail)
          go_wp2
          go_roundg (m - (k + 1))
          case measure => omega
          case rel => exact ⟨k + 1, by omega, rfl, by go_num, fun j hj => by
            by_cases h : j = k
            · subst h; exact HV1.out.trans HV2.out.symm
            · exact HSM.out j (by omega), below_drewN hbel _⟩
        · have fe : (v1 != v2) = true := by rw [bne_iff_ne]; exact e
          have fe2 : (v1 == v2) = false := by rw [beq_eq_false_iff_ne]; exact e
          have hQ : Q = false := by
            rw [← HQ.out, decide_eq_false_iff_not]
            rintro rfl
            exact e (hv1.symm.trans hv2)
          subst hQ
          clear hsm hv1 hv2
          go_wp2_with fail
          go_quiet (fail)
          go_wp2
          go_ret
          exact ⟨rfl, below_drewN hbel _⟩
      · obtain rfl : k = m := by omega
        have hQ : Q = true := by
          rw [← HQ.out, decide_eq_true_eq]
          exact ext_getD (by omega) (fun j => by
            by_cases hj : j < xs.length
            · exact hsm j (by omega)
            · rw [getD_out (by omega), getD_out (by omega)])
        subst hQ
        clear hsm
        go_wp2
        go_ret
        exact ⟨rfl, hbel⟩
  · have hQ : Q = false := by
      rw [← HQ.out, decide_eq_false_iff_not]
      rintro rfl
      exact e (h2.symm.trans h1)
    subst hQ
    have fe : ((n : Int) != (m : Int)) = true := by rw [bne_iff_ne]; omega
    have fe2 : ((n : Int) == (m : Int)) = false := by rw [beq_eq_false_iff_ne]; omega
    go_enter Try.func82, Try.ntmps82
    go_wp2
    go_ret
    exact ⟨rfl, Below.refl _ _⟩
set_option maxRecDepth 8000 in
set_option maxHeartbeats 1000000 in
theorem boardEquals_any (a1 a2 b1 b2 : Option Addr) (n1 n2 m1 m2 c1 c2 d1 d2 : Nat) (xs ys us vs : List Int) (w : World) (h1 : xs.length = n1) (h2 : ys.length = n2) (h3 : us.length = m1) (h4 : vs.length = m2) (l1 : n1 ≤ 1048576) (l2 : n2 ≤ 1048576) (l3 : m1 ≤ 1048576) (l4 : m2 ≤ 1048576)
    (r1 : IRow w a1 xs) (r2 : IRow w a2 ys) (s1 : IRow w b1 us) (s2 : IRow w b2 vs) :
    Calls Try.prog 54 #[.agg #[.slice a1 n1 c1, .slice a2 n2 c2], .agg #[.slice b1 m1 d1, .slice b2 m2 d2]] w fun e w' => e = .returned (.bool (decide (xs = us) && decide (ys = vs))) ∧ Below w.heap.size w w' := by
  obtain ⟨BA, BB, hb, hz⟩ := two_new w #[.slice a1 n1 c1, .slice a2 n2 c2] #[.slice b1 m1 d1, .slice b2 m2 d2] 34 34
  clear hz
  obtain ⟨x0, x1, xf, xl⟩ := BA.two
  obtain ⟨y0, y1, yf, yl⟩ := BB.two
  have hE1 := fun (W : World) (hW : Below w.heap.size w W) => slicesEqual_any a1 b1 n1 m1 c1 d1 xs us W h1 h3 l1 l3 (r1.below hW) (s1.below hW)
  have hE2 := fun (W : World) (hW : Below w.heap.size w W) => slicesEqual_any a2 b2 n2 m2 c2 d2 ys vs W h2 h4 l2 l4 (r2.below hW) (s2.below hW)
  obtain ⟨A, hA⟩ : ∃ A, decide (xs = us) = A := ⟨_, rfl⟩
  obtain ⟨B, hB⟩ : ∃ B, decide (ys = vs) = B := ⟨_, rfl⟩
  rw [hA] at hE1 ⊢
  rw [hB] at hE2 ⊢
  have HE1 := Lib.hid hE1
  have HE2 := Lib.hid hE2
  clear hA hB hE1 hE2
  cases A with
  | false =>
    go_enter Try.func54, Try.ntmps54
    go_wp2_with fail
    refine (HE1.out _ hb).mono ?_
    rintro e w1 ⟨rfl, hb1⟩
    go_wp2_with fail
    go_ret
    exact ⟨rfl, chain hb hb1⟩
  | true =>
    go_enter Try.func54, Try.ntmps54
    go_wp2_with fail
    refine (HE1.out _ hb).mono ?_
    rintro e w1 ⟨rfl, hb1⟩
    clear x0 x1 xf xl y0 y1 yf yl
    obtain ⟨x0, x1, xf, xl⟩ := (BA.below hb1).two
    obtain ⟨y0, y1, yf, yl⟩ := (BB.below hb1).two
    go_wp2_with fail
    refine (HE2.out _ (chain hb hb1)).mono ?_
    rintro e w2 ⟨rfl, hb2⟩
    go_wp2_with fail
    go_ret
    exact ⟨rfl, chain (chain hb hb1) hb2⟩
end Go.Proofs.Ytaedcmmomenilaa
namespace Go.Proofs.Ytaedcmmomenilaa
open Go.ChangeShapes Go.WideShapes Go.ChangeAt Go.RowKit
set_option linter.unusedVariables false
set_option linter.unusedSimpArgs false

/-- Is a play's board this one? -/
def isAt (us vs : List Int) (x : PP) : Bool := decide (x.2.2.1 = us) && decide (x.2.2.2 = vs)
theorem findP_first (us vs : List Int) : ∀ (l : List PP) (n : Nat), findP (us, vs) (l.map Prod.snd) n = if firstE (isAt us vs) l < 0 then -1 else firstE (isAt us vs) l + n
  | [], n => rfl
  | x :: l, n => by
    rw [List.map_cons, findP, firstE]
    have ih := findP_first us vs l (n + 1)
    have hl := (firstE_low (isAt us vs) l).1
    by_cases e : x.2.2 = (us, vs)
    · have e2 : isAt us vs x = true := by unfold isAt; simp [e]
      rw [if_pos e, if_pos e2]
      simp
    · have e2 : ¬ isAt us vs x = true := by
        unfold isAt
        intro h
        simp at h
        exact e (Prod.ext h.1 h.2)
      rw [if_neg e, if_neg e2, ih]
      by_cases h3 : firstE (isAt us vs) l < 0
      · rw [if_pos h3, if_pos h3]; rfl
      · rw [if_neg h3, if_neg h3, if_neg (by omega)]
        omega
theorem findP_zero (us vs : List Int) (l : List PP) : findP (us, vs) (l.map Prod.snd) 0 = firstE (isAt us vs) l := by
  have hl := (firstE_low (isAt us vs) l).1
  rw [findP_first]
  split <;> omega
/-- The place of a play, with its code. -/
def fpV (p c h s : Int) (xs ys : List Int) (ra rb : Int) (us vs : List Int) : Value :=
  if apC p c h s xs ys ra rb = 0 then (if findP (us, vs) (apL p c h s xs ys ra rb) 0 < 0 then .tuple #[.int .i64 0, .int .i64 4] else .tuple #[.int .i64 (findP (us, vs) (apL p c h s xs ys ra rb) 0), .int .i64 0]) else .tuple #[.int .i64 0, .int .i64 (apC p c h s xs ys ra rb)]
theorem apL_small {p c h s : Int} {xs ys : List Int} {ra rb : Int} : ∀ q ∈ apL p c h s xs ys ra rb, q.2.1.length ≤ 1048576 ∧ q.2.2.length ≤ 1048576 := by
  intro q hq
  unfold apL at hq
  split at hq
  · rename_i g0
    split at hq
    · obtain ⟨g, e⟩ := codeB_zero g0
      obtain ⟨e1, e2⟩ := rlB_two e
      have gp := isB_parts g
      obtain ⟨P, rfl⟩ := Int.eq_ofNat_of_zero_le (by omega : 0 ≤ p)
      rw [show ((P : Int)).toNat = P by simp] at hq
      have hf := allTo_fine (U := usedP P h xs ys ra rb) (l := ordersP ra rb) g (fun o ho => by obtain ⟨j, hj⟩ := List.mem_iff_getElem?.1 ho; exact (ordersP_mem e1 e2 hj).2) (ordersP ra rb).length q hq
      have gq := isB_parts hf
      omega
    · simp at hq
  · simp at hq
theorem apL_len {p c h s : Int} {xs ys : List Int} {ra rb : Int} : (apL p c h s xs ys ra rb).length ≤ 1000000 := by
  unfold apL
  split
  · rename_i g0
    split
    · obtain ⟨g, e⟩ := codeB_zero g0
      obtain ⟨e1, e2⟩ := rlB_two e
      have gp := isB_parts g
      obtain ⟨P, rfl⟩ := Int.eq_ofNat_of_zero_le (by omega : 0 ≤ p)
      rw [show ((P : Int)).toNat = P by simp]
      have := allTo_length P h xs ys (usedP P h xs ys ra rb) 390625 (ordersP ra rb) (fun o ho => longP_four (by omega) h o xs ys (by obtain ⟨j, hj⟩ := List.mem_iff_getElem?.1 ho; exact (ordersP_mem e1 e2 hj).1)) (ordersP ra rb).length
      have h2 := ordersP_length ra rb
      unfold allP
      have h3 : (ordersP ra rb).length * 390625 ≤ 2 * 390625 := Nat.mul_le_mul_right _ h2
      omega
    · simp
  · simp
set_option maxRecDepth 8000 in
theorem find1_any (x : PP) (B7 : Nat) (b1 b2 : Option Addr) (m1 m2 d1 d2 lo hi : Nat) (us vs : List Int) (w : World) (hB : Blk w B7 #[.slice b1 m1 d1, .slice b2 m2 d2] 34) (hx : PAt lo hi w x) (q1 : x.2.2.1.length ≤ 1048576) (q2 : x.2.2.2.length ≤ 1048576) (g1 : us.length = m1) (g2 : vs.length = m2) (k1 : m1 ≤ 1048576) (k2 : m2 ≤ 1048576) (s1 : IRow w b1 us) (s2 : IRow w b2 vs) :
    Calls Try.prog 53 #[plV x, .pointer (some ⟨B7, 0, none⟩)] w fun e w' => e = .returned (.bool (isAt us vs x)) ∧ Below w.heap.size w w' := by
  have BX := Blk.new w #[pl0 x, pl1 x, pl2 x] 80
  have hb : Below w.heap.size w (w.alloc (.cells #[pl0 x, pl1 x, pl2 x] 80)) := (Below.refl _ _).alloc (Nat.le_refl _) _
  have he := fun W (hW : Below w.heap.size w W) => boardEquals_any x.1.b1 x.1.b2 b1 b2 x.2.2.1.length x.2.2.2.length m1 m2 x.1.k1 x.1.k2 d1 d2 x.2.2.1 x.2.2.2 us vs W rfl rfl g1 g2 q1 q2 k1 k2 (hx.2.irow1.below hW) (hx.2.irow2.below hW) (s1.below hW) (s2.below hW)
  have hi : (decide (x.2.2.1 = us) && decide (x.2.2.2 = vs)) = isAt us vs x := rfl
  rw [hi] at he
  obtain ⟨R, hR⟩ : ∃ R, isAt us vs x = R := ⟨_, rfl⟩
  rw [hR] at he ⊢
  have HE := Lib.hid he
  clear he hi hR
  obtain ⟨x0, x1, x2, xf, xl⟩ := BX.tri
  obtain ⟨y0, y1, yf, yl⟩ := (hB.below hb).two
  go_enter Try.func53, Try.ntmps53
  go_wp2_with fail
  refine (HE.out _ hb).mono ?_
  rintro e w1 ⟨rfl, hb1⟩
  go_wp2
  go_ret
  exact ⟨rfl, chain hb hb1⟩
theorem find1_enter (args : Array Value) (w : World) : (callFunc 53 args).run Try.prog w = .ok (.enter 53 args) w := by
  obtain ⟨fn, hf, hn, cc, hc⟩ : ∃ fn, Try.prog.funcs[(53 : FuncId)]? = some fn ∧ (fn.name == "runtime.NumGoroutine") = false ∧ ∃ cc, fn.body = some cc := ⟨_, Try.func53, by kernel_rfl, _, rfl⟩
  have h1 : ¬ fn.name = "runtime.NumGoroutine" := by simpa using hn
  simp [callFunc, hf, h1, hc]
set_option maxRecDepth 8000 in
set_option maxHeartbeats 2000000 in
theorem implFindPlay_any (ra rb : Int) (p c h s : Int) (a1 a2 : Option Addr) (n1 n2 c1 c2 : Nat) (xs ys : List Int) (b1 b2 : Option Addr) (m1 m2 d1 d2 : Nat) (us vs : List Int) (w : World) (h1 : xs.length = n1) (h2 : ys.length = n2) (l1 : n1 ≤ 1048576) (l2 : n2 ≤ 1048576) (r1 : IRow w a1 xs) (r2 : IRow w a2 ys) (g1 : us.length = m1) (g2 : vs.length = m2) (k1 : m1 ≤ 1048576) (k2 : m2 ≤ 1048576) (s1 : IRow w b1 us) (s2 : IRow w b2 vs) :
    Calls Try.prog 25 #[.agg #[.int .i64 p, .int .i64 c, .int .i64 h, .int .i64 s], .agg #[.slice a1 n1 c1, .slice a2 n2 c2], .agg #[.int .i64 ra, .int .i64 rb], .agg #[.slice b1 m1 d1, .slice b2 m2 d2]] w fun e w' => e = .returned (fpV p c h s xs ys ra rb us vs) ∧ Below w.heap.size w w' := by
  have hap := fun W (q1 : IRow W a1 xs) (q2 : IRow W a2 ys) => implAllPlays_any ra rb p c h s a1 a2 n1 n2 c1 c2 xs ys W h1 h2 l1 l2 q1 q2
  have hsm := apL_small (p := p) (c := c) (h := h) (s := s) (xs := xs) (ys := ys) (ra := ra) (rb := rb)
  have hln := apL_len (p := p) (c := c) (h := h) (s := s) (xs := xs) (ys := ys) (ra := ra) (rb := rb)
  unfold fpV
  unfold PlaysGot2 at hap
  obtain ⟨AC, hAC⟩ : ∃ z, apC p c h s xs ys ra rb = z := ⟨_, rfl⟩
  obtain ⟨AA, hAA⟩ : ∃ z, apL p c h s xs ys ra rb = z := ⟨_, rfl⟩
  rw [hAC, hAA] at hap
  rw [hAA] at hsm hln
  rw [hAC, hAA]
  have hfb := findP_bound (us, vs) AA 0
  obtain ⟨FF, hFF⟩ : ∃ z, findP (us, vs) AA 0 = z := ⟨_, rfl⟩
  rw [hFF] at hfb ⊢
  have HAP := Lib.hid hap
  have HSM := Lib.hid hsm
  have HFF := Lib.hid hFF
  clear hap hsm hAC hAA hFF
  have BV := ((((Blk.new w #[.int .i64 p, .int .i64 c, .int .i64 h, .int .i64 s] 32).alloc (.cells #[.slice a1 n1 c1, .slice a2 n2 c2] 34)).alloc (.cells #[.int .i64 ra, .int .i64 rb] 36)).alloc (.cells #[.slice b1 m1 d1, .slice b2 m2 d2] 34))
  obtain ⟨-, BB, BR, hb3, hz3⟩ := three_new w #[.int .i64 p, .int .i64 c, .int .i64 h, .int .i64 s] #[.slice a1 n1 c1, .slice a2 n2 c2] #[.int .i64 ra, .int .i64 rb] 32 34 36
  replace BB := BB.alloc (.cells #[.slice b1 m1 d1, .slice b2 m2 d2] 34)
  replace BR := BR.alloc (.cells #[.slice b1 m1 d1, .slice b2 m2 d2] 34)
  have BD := Blk.new (((w.alloc (.cells #[.int .i64 p, .int .i64 c, .int .i64 h, .int .i64 s] 32)).alloc (.cells #[.slice a1 n1 c1, .slice a2 n2 c2] 34)).alloc (.cells #[.int .i64 ra, .int .i64 rb] 36)) #[.slice b1 m1 d1, .slice b2 m2 d2] 34
  rw [hz3] at BD
  have hb : Below w.heap.size w ((((w.alloc (.cells #[.int .i64 p, .int .i64 c, .int .i64 h, .int .i64 s] 32)).alloc (.cells #[.slice a1 n1 c1, .slice a2 n2 c2] 34)).alloc (.cells #[.int .i64 ra, .int .i64 rb] 36)).alloc (.cells #[.slice b1 m1 d1, .slice b2 m2 d2] 34)) := hb3.alloc hb3.size _
  clear hb3 hz3
  obtain ⟨x0, x1, x2, x3, xf, xl⟩ := BV.four
  obtain ⟨y0, y1, yf, yl⟩ := BB.two
  obtain ⟨z0, z1, zf, zl⟩ := BR.two
  by_cases e0 : AC = 0
  · subst e0
    rw [if_pos rfl]
    obtain ⟨RV, hRV⟩ : ∃ z, (if FF < 0 then (.tuple #[.int .i64 0, .int .i64 4] : Value) else .tuple #[.int .i64 FF, .int .i64 0]) = z := ⟨_, rfl⟩
    rw [hRV]
    have HRV := Lib.hid hRV
    clear hRV
    go_enter Try.func25, Try.ntmps25
    go_wp2_with fail
    clear x0 x1 x2 x3 xf xl y0 y1 yf yl z0 z1 zf zl
    generalize ((((w.alloc (.cells #[.int .i64 p, .int .i64 c, .int .i64 h, .int .i64 s] 32)).alloc (.cells #[.slice a1 n1 c1, .slice a2 n2 c2] 34)).alloc (.cells #[.int .i64 ra, .int .i64 rb] 36)).alloc (.cells #[.slice b1 m1 d1, .slice b2 m2 d2] 34)) = v0 at *
    refine (HAP.out _ (r1.below hb) (r2.below hb)).mono ?_
    rintro e w1 ⟨aL, kL, L, rfl, hLm, hLO, hLA, hb1⟩
    have hLl : L.length ≤ 1000000 := by have := congrArg List.length hLm; rw [List.length_map] at this; omega
    have hbox : w.heap.size < v0.heap.size := by have := BV.lt; omega
    have HLM := Lib.hid hLm
    clear hLm
    have hsec := indexP_any w.heap.size w1.heap.size aL kL L 53 #[.pointer (some ⟨w.heap.size + 1 + 1 + 1, 0, none⟩)] (isAt us vs) w1 (by omega) (hLO.mono (Nat.le_of_lt hbox) (Nat.le_refl _)) find1_enter (fun W hW x hx => find1_any x (w.heap.size + 1 + 1 + 1) b1 b2 m1 m2 d1 d2 v0.heap.size w1.heap.size us vs W (BD.below (chain hb1 hW)) ((hLA x hx).below hW) (HSM.out x.2 (by rw [← HLM.out]; exact List.mem_map.2 ⟨x, hx, rfl⟩)).1 (HSM.out x.2 (by rw [← HLM.out]; exact List.mem_map.2 ⟨x, hx, rfl⟩)).2 g1 g2 k1 k2 (s1.below (chain (chain hb hb1) hW)) (s2.below (chain (chain hb hb1) hW)))
    rw [← findP_zero, HLM.out] at hsec
    rw [HFF.out] at hsec
    have HSEC := Lib.hid hsec
    clear hsec
    obtain ⟨u0, u1, uf, ul⟩ := (BD.below hb1).two
    go_wp2_with fail
    refine (HSEC.out).mono ?_
    rintro e w2 ⟨rfl, hb2⟩
    have hrv := HRV.out
    clear HRV
    by_cases f0 : FF < 0
    · rw [if_pos f0] at hrv
      subst hrv
      go_wp2
      go_ret2
      exact ⟨rfl, chain (chain hb hb1) hb2⟩
    · rw [if_neg f0] at hrv
      subst hrv
      go_wp2
      go_ret2
      exact ⟨rfl, chain (chain hb hb1) hb2⟩
  · rw [if_neg e0]
    have f1 : (AC != 0) = true := by rw [bne_iff_ne]; exact e0
    go_enter Try.func25, Try.ntmps25
    go_wp2_with fail
    clear x0 x1 x2 x3 xf xl y0 y1 yf yl z0 z1 zf zl
    generalize ((((w.alloc (.cells #[.int .i64 p, .int .i64 c, .int .i64 h, .int .i64 s] 32)).alloc (.cells #[.slice a1 n1 c1, .slice a2 n2 c2] 34)).alloc (.cells #[.int .i64 ra, .int .i64 rb] 36)).alloc (.cells #[.slice b1 m1 d1, .slice b2 m2 d2] 34)) = v0 at *
    refine (HAP.out _ (r1.below hb) (r2.below hb)).mono ?_
    rintro e w1 ⟨aL, kL, L, rfl, -, -, -, hb1⟩
    go_wp2
    go_ret2
    exact ⟨rfl, chain hb hb1⟩
set_option maxRecDepth 8000 in
set_option maxHeartbeats 2000000 in
theorem specFindPlay_any (ra rb : Int) (p c h s : Int) (a1 a2 : Option Addr) (n1 n2 c1 c2 : Nat) (xs ys : List Int) (b1 b2 : Option Addr) (m1 m2 d1 d2 : Nat) (us vs : List Int) (w : World) (h1 : xs.length = n1) (h2 : ys.length = n2) (l1 : n1 ≤ 1048576) (l2 : n2 ≤ 1048576) (r1 : IRow w a1 xs) (r2 : IRow w a2 ys) (g1 : us.length = m1) (g2 : vs.length = m2) (k1 : m1 ≤ 1048576) (k2 : m2 ≤ 1048576) (s1 : IRow w b1 us) (s2 : IRow w b2 vs) :
    Calls Try.prog 24 #[.agg #[.int .i64 p, .int .i64 c, .int .i64 h, .int .i64 s], .agg #[.slice a1 n1 c1, .slice a2 n2 c2], .agg #[.int .i64 ra, .int .i64 rb], .agg #[.slice b1 m1 d1, .slice b2 m2 d2]] w fun e w' => e = .returned (fpV p c h s xs ys ra rb us vs) ∧ Below w.heap.size w w' := by
  have hap := fun W (q1 : IRow W a1 xs) (q2 : IRow W a2 ys) => specAllPlays_any ra rb p c h s a1 a2 n1 n2 c1 c2 xs ys W h1 h2 l1 l2 q1 q2
  have hsm := apL_small (p := p) (c := c) (h := h) (s := s) (xs := xs) (ys := ys) (ra := ra) (rb := rb)
  have hln := apL_len (p := p) (c := c) (h := h) (s := s) (xs := xs) (ys := ys) (ra := ra) (rb := rb)
  unfold fpV
  unfold PlaysGot2 at hap
  obtain ⟨AC, hAC⟩ : ∃ z, apC p c h s xs ys ra rb = z := ⟨_, rfl⟩
  obtain ⟨AA, hAA⟩ : ∃ z, apL p c h s xs ys ra rb = z := ⟨_, rfl⟩
  rw [hAC, hAA] at hap
  rw [hAA] at hsm hln
  rw [hAC, hAA]
  have hfb := findP_bound (us, vs) AA 0
  obtain ⟨FF, hFF⟩ : ∃ z, findP (us, vs) AA 0 = z := ⟨_, rfl⟩
  rw [hFF] at hfb ⊢
  have HAP := Lib.hid hap
  have HSM := Lib.hid hsm
  have HFF := Lib.hid hFF
  clear hap hsm hAC hAA hFF
  have BV := ((((Blk.new w #[.int .i64 p, .int .i64 c, .int .i64 h, .int .i64 s] 32).alloc (.cells #[.slice a1 n1 c1, .slice a2 n2 c2] 34)).alloc (.cells #[.int .i64 ra, .int .i64 rb] 36)).alloc (.cells #[.slice b1 m1 d1, .slice b2 m2 d2] 34))
  obtain ⟨-, BB, BR, hb3, hz3⟩ := three_new w #[.int .i64 p, .int .i64 c, .int .i64 h, .int .i64 s] #[.slice a1 n1 c1, .slice a2 n2 c2] #[.int .i64 ra, .int .i64 rb] 32 34 36
  replace BB := BB.alloc (.cells #[.slice b1 m1 d1, .slice b2 m2 d2] 34)
  replace BR := BR.alloc (.cells #[.slice b1 m1 d1, .slice b2 m2 d2] 34)
  have BD := Blk.new (((w.alloc (.cells #[.int .i64 p, .int .i64 c, .int .i64 h, .int .i64 s] 32)).alloc (.cells #[.slice a1 n1 c1, .slice a2 n2 c2] 34)).alloc (.cells #[.int .i64 ra, .int .i64 rb] 36)) #[.slice b1 m1 d1, .slice b2 m2 d2] 34
  rw [hz3] at BD
  have hb : Below w.heap.size w ((((w.alloc (.cells #[.int .i64 p, .int .i64 c, .int .i64 h, .int .i64 s] 32)).alloc (.cells #[.slice a1 n1 c1, .slice a2 n2 c2] 34)).alloc (.cells #[.int .i64 ra, .int .i64 rb] 36)).alloc (.cells #[.slice b1 m1 d1, .slice b2 m2 d2] 34)) := hb3.alloc hb3.size _
  clear hb3 hz3
  obtain ⟨x0, x1, x2, x3, xf, xl⟩ := BV.four
  obtain ⟨y0, y1, yf, yl⟩ := BB.two
  obtain ⟨z0, z1, zf, zl⟩ := BR.two
  by_cases e0 : AC = 0
  · subst e0
    rw [if_pos rfl]
    obtain ⟨RV, hRV⟩ : ∃ z, (if FF < 0 then (.tuple #[.int .i64 0, .int .i64 4] : Value) else .tuple #[.int .i64 FF, .int .i64 0]) = z := ⟨_, rfl⟩
    rw [hRV]
    have HRV := Lib.hid hRV
    clear hRV
    go_enter Try.func24, Try.ntmps24
    go_wp2_with fail
    clear x0 x1 x2 x3 xf xl y0 y1 yf yl z0 z1 zf zl
    generalize ((((w.alloc (.cells #[.int .i64 p, .int .i64 c, .int .i64 h, .int .i64 s] 32)).alloc (.cells #[.slice a1 n1 c1, .slice a2 n2 c2] 34)).alloc (.cells #[.int .i64 ra, .int .i64 rb] 36)).alloc (.cells #[.slice b1 m1 d1, .slice b2 m2 d2] 34)) = v0 at *
    refine (HAP.out _ (r1.below hb) (r2.below hb)).mono ?_
    rintro e w1 ⟨aL, kL, L, rfl, hLm, hLO, hLA, hb1⟩
    have hLl : L.length ≤ 1000000 := by have := congrArg List.length hLm; rw [List.length_map] at this; omega
    have hbox : w.heap.size < v0.heap.size := by have := BV.lt; omega
    have HLM := Lib.hid hLm
    clear hLm
    have hsec := l05Find_any v0.heap.size w1.heap.size aL L.length kL L b1 b2 m1 m2 d1 d2 us vs w1 rfl (by omega) hLO hLA (fun x hx => HSM.out x.2 (by rw [← HLM.out]; exact List.mem_map.2 ⟨x, hx, rfl⟩)) g1 g2 k1 k2 (s1.below (chain hb hb1)) (s2.below (chain hb hb1))
    rw [HLM.out] at hsec
    rw [HFF.out] at hsec
    have HSEC := Lib.hid hsec
    clear hsec
    obtain ⟨u0, u1, uf, ul⟩ := (BD.below hb1).two
    go_wp2_with fail
    refine (HSEC.out).mono ?_
    rintro e w2 ⟨rfl, hb2⟩
    have hrv := HRV.out
    clear HRV
    by_cases f0 : FF < 0
    · rw [if_pos f0] at hrv
      subst hrv
      go_wp2
      go_ret2
      exact ⟨rfl, chain (chain hb hb1) hb2⟩
    · rw [if_neg f0] at hrv
      subst hrv
      go_wp2
      go_ret2
      exact ⟨rfl, chain (chain hb hb1) hb2⟩
  · rw [if_neg e0]
    have f1 : (AC != 0) = true := by rw [bne_iff_ne]; exact e0
    go_enter Try.func24, Try.ntmps24
    go_wp2_with fail
    clear x0 x1 x2 x3 xf xl y0 y1 yf yl z0 z1 zf zl
    generalize ((((w.alloc (.cells #[.int .i64 p, .int .i64 c, .int .i64 h, .int .i64 s] 32)).alloc (.cells #[.slice a1 n1 c1, .slice a2 n2 c2] 34)).alloc (.cells #[.int .i64 ra, .int .i64 rb] 36)).alloc (.cells #[.slice b1 m1 d1, .slice b2 m2 d2] 34)) = v0 at *
    refine (HAP.out _ (r1.below hb) (r2.below hb)).mono ?_
    rintro e w1 ⟨aL, kL, L, rfl, -, -, -, hb1⟩
    go_wp2
    go_ret2
    exact ⟨rfl, chain hb hb1⟩
end Go.Proofs.Ytaedcmmomenilaa
namespace Go.Proofs.Ytaedcmmomenilaa
open Go.ChangeShapes Go.WideShapes Go.ChangeAt Go.RowKit
set_option linter.unusedVariables false
set_option linter.unusedSimpArgs false

set_option maxHeartbeats 1000000 in
theorem eqStep_same (s : Stp) (w : World) :
    Calls Try.prog 62 #[stV s, stV s] w fun e w' => e = .returned (.bool true) ∧ Below w.heap.size w w' := by
  obtain ⟨a, b, c, d⟩ := s
  have hb : Below w.heap.size w ((w.alloc (.cells #[.int .i64 a, .int .i64 b, .int .i64 c, .bool d] 89)).alloc (.cells #[.int .i64 a, .int .i64 b, .int .i64 c, .bool d] 89)) := ((Below.refl _ _).alloc (Nat.le_refl _) _).alloc (by simp) _
  go_enter Try.func62, Try.ntmps62
  go_wp2
  go_ret
  exact ⟨rfl, hb⟩
set_option maxHeartbeats 1000000 in
theorem toStep_any (s : Stp) (w : World) :
    Calls Try.prog 58 #[stV s] w fun e w' => e = .returned (stV s) ∧ Below w.heap.size w w' := by
  obtain ⟨a, b, c, d⟩ := s
  go_enter Try.func58, Try.ntmps58
  go_wp2
  refine bodyPost_ret (v := stV (a, b, c, d)) (by simp [results, Try.results58, go_sem]) rfl ⟨rfl, ?_⟩
  exact (((Below.refl _ _).alloc (Nat.le_refl _) _).alloc (by simp) _).alloc (by simp; omega) _
set_option maxRecDepth 8000 in
set_option maxHeartbeats 1000000 in
theorem eqStepS_same (lo hi lo2 hi2 : Nat) (a1 a2 : Option Addr) (n c1 c2 : Nat) (l : List Stp) (w : World) (hn : l.length = n) (hle : n ≤ 1048576) (h1 : OSt lo hi w a1 l) (h2 : OSt lo2 hi2 w a2 l) :
    Calls Try.prog 30 #[.slice a1 n c1, .slice a2 n c2] w fun e w' => e = .returned (.bool true) ∧ Below w.heap.size w w' := by
  subst hn
  go_enter Try.func30, Try.ntmps30
  go_wp2
  go_loopg [5] l.length (fun m i wr => ∃ k : Nat, k ≤ l.length ∧ m = l.length - k ∧ i = .int .i64 k ∧ Below w.heap.size w wr)
  case atStart => exact ⟨0, by omega, by omega, rfl, Below.refl _ _⟩
  case round =>
    obtain ⟨k, hk, hm, rfl, hbel⟩ := hrel
    by_cases hlt : k < l.length
    · have hlt' : (k : Int) < (l.length : Int) := by omega
      have hk0 : (0 : Int) ≤ (k : Int) := by omega
      have h1w := h1.below hbel
      have h2w := h2.below hbel
      obtain ⟨g1, rfl, R1⟩ := h1w.row hlt
      obtain ⟨g2, rfl, R2⟩ := h2w.row hlt
      obtain ⟨s, hs⟩ : ∃ s, l[k]? = some s := ⟨_, List.getElem?_eq_getElem hlt⟩
      obtain ⟨u0, u1, u2, u3⟩ := R1.four k s hs
      obtain ⟨v0, v1, v2, v3⟩ := R2.four k s hs
      clear h1w h2w hs h1 h2
      obtain ⟨a, b, c, d⟩ := s
      dsimp only at u0 u1 u2 u3 v0 v1 v2 v3
      go_wp2_with fail
      have hb := hbel
      refine wp_region_held_drew (S := fun w' => w'.cell? ⟨g1, k * 4, none⟩ = some (.int .i64 a) ∧ w'.cell? ⟨g1, k * 4 + 1, none⟩ = some (.int .i64 b) ∧ w'.cell? ⟨g1, k * 4 + 2, none⟩ = some (.int .i64 c) ∧ w'.cell? ⟨g1, k * 4 + 3, none⟩ = some (.bool d) ∧ w'.cell? ⟨g2, k * 4, none⟩ = some (.int .i64 a) ∧ w'.cell? ⟨g2, k * 4 + 1, none⟩ = some (.int .i64 b) ∧ w'.cell? ⟨g2, k * 4 + 2, none⟩ = some (.int .i64 c) ∧ w'.cell? ⟨g2, k * 4 + 3, none⟩ = some (.bool d) ∧ Below w.heap.size w w') (by kernel_rfl) ⟨u0, u1, u2, u3, v0, v1, v2, v3, hb.drew⟩ (fun hHeld => ?_)
      refine wpAnyH_take (i := 0) (oi := { dst := some 17, op := _, type := _, pos := _, after := _, guard := _ }) (v := ?_) rfl (by kernel_rfl) (by kernel_rfl) (by kernel_rfl) (fun _ _ _ h => h) (Or.inl ⟨by rfl, ?_⟩) (by assumption) ?_
      rotate_left
      · intro w hSw
        (try dsimp only at hSw)
        go_simp
        (try (with_reducible rfl))
      try simp only [Act.put, List.setIfInBounds_toArray, List.set_cons_zero, List.set_cons_succ]
      refine wpAnyH_take (i := 1) (oi := { dst := some 18, op := _, type := _, pos := _, after := _, guard := _ }) (v := ?_) rfl (by kernel_rfl) (by kernel_rfl) (by kernel_rfl) (fun _ _ _ h => h) (Or.inl ⟨by rfl, ?_⟩) (by assumption) ?_
      rotate_left
      · intro w hSw
        (try dsimp only at hSw)
        go_simp
        (try (with_reducible rfl))
      try simp only [Act.put, List.setIfInBounds_toArray, List.set_cons_zero, List.set_cons_succ]
      refine wpAnyH_take (i := 2) (oi := { dst := some 19, op := _, type := _, pos := _, after := _, guard := _ }) (v := ?_) rfl (by kernel_rfl) (by kernel_rfl) (by kernel_rfl) (fun _ _ _ h => h) (Or.inl ⟨by rfl, ?_⟩) (by assumption) ?_
      rotate_left
      · intro w hSw
        (try dsimp only at hSw)
        go_simp
        (try (with_reducible rfl))
      try simp only [Act.put, List.setIfInBounds_toArray, List.set_cons_zero, List.set_cons_succ]
      refine wpAnyH_take (i := 3) (oi := { dst := some 20, op := _, type := _, pos := _, after := _, guard := _ }) (v := ?_) rfl (by kernel_rfl) (by kernel_rfl) (by kernel_rfl) (fun _ _ _ h => h) (Or.inl ⟨by rfl, ?_⟩) (by assumption) ?_
      rotate_left
      · intro w hSw
        (try dsimp only at hSw)
        go_simp
        (try (with_reducible rfl))
      try simp only [Act.put, List.setIfInBounds_toArray, List.set_cons_zero, List.set_cons_succ]
      refine wpAnyH_take (i := 4) (oi := { dst := some 21, op := _, type := _, pos := _, after := _, guard := _ }) (v := ?_) rfl (by kernel_rfl) (by kernel_rfl) (by kernel_rfl) (fun _ _ _ h => h) (Or.inl ⟨by rfl, ?_⟩) (by assumption) ?_
      rotate_left
      · intro w hSw
        (try dsimp only at hSw)
        go_simp
        (try (with_reducible rfl))
      try simp only [Act.put, List.setIfInBounds_toArray, List.set_cons_zero, List.set_cons_succ]
      refine wpAnyH_take (i := 5) (oi := { dst := some 22, op := _, type := _, pos := _, after := _, guard := _ }) (v := ?_) rfl (by kernel_rfl) (by kernel_rfl) (by kernel_rfl) (fun _ _ _ h => h) (Or.inl ⟨by rfl, ?_⟩) (by assumption) ?_
      rotate_left
      · intro w hSw
        (try dsimp only at hSw)
        go_simp
        (try (with_reducible rfl))
      try simp only [Act.put, List.setIfInBounds_toArray, List.set_cons_zero, List.set_cons_succ]
      refine wpAnyH_take (i := 6) (oi := { dst := some 23, op := _, type := _, pos := _, after := _, guard := _ }) (v := ?_) rfl (by kernel_rfl) (by kernel_rfl) (by kernel_rfl) (fun _ _ _ h => h) (Or.inl ⟨by rfl, ?_⟩) (by assumption) ?_
      rotate_left
      · intro w hSw
        (try dsimp only at hSw)
        go_simp
        (try (with_reducible rfl))
      try simp only [Act.put, List.setIfInBounds_toArray, List.set_cons_zero, List.set_cons_succ]
      refine wpAnyH_take (i := 7) (oi := { dst := some 24, op := _, type := _, pos := _, after := _, guard := _ }) (v := ?_) rfl (by kernel_rfl) (by kernel_rfl) (by kernel_rfl) (fun _ _ _ h => h) (Or.inl ⟨by rfl, ?_⟩) (by assumption) ?_
      rotate_left
      · intro w hSw
        (try dsimp only at hSw)
        go_simp
        (try (with_reducible rfl))
      try simp only [Act.put, List.setIfInBounds_toArray, List.set_cons_zero, List.set_cons_succ]
      refine wpAnyH_ready (rs := [8]) (by kernel_rfl) (by simp) ?_
      refine AllReadyH.cons (o := { dst := some 25, op := _, type := _, pos := _, after := _, guard := _ }) rfl (fun K hK => ?_) AllReadyH.nil
      go_simp
      refine (eqStep_same (a, b, c, d) _).mono ?_
      rintro e w5 ⟨rfl, hb5⟩
      have hbn := chain hHeld.2.2.2.2.2.2.2.2 hb5
      (try go_wp2_with fail)
      refine hK.out _ _ ⟨(CellIs.below hHeld.1 hb5), (CellIs.below hHeld.2.1 hb5), (CellIs.below hHeld.2.2.1 hb5), (CellIs.below hHeld.2.2.2.1 hb5), (CellIs.below hHeld.2.2.2.2.1 hb5), (CellIs.below hHeld.2.2.2.2.2.1 hb5), (CellIs.below hHeld.2.2.2.2.2.2.1 hb5), (CellIs.below hHeld.2.2.2.2.2.2.2.1 hb5), hbn⟩ (fun hHeld => ?_)
      clear hK K
      try simp only [Act.put, List.setIfInBounds_toArray, List.set_cons_zero, List.set_cons_succ]
      refine wpAnyH_take (i := 9) (oi := { dst := some 26, op := _, type := _, pos := _, after := _, guard := _ }) (v := ?_) rfl (by kernel_rfl) (by kernel_rfl) (by kernel_rfl) (fun _ _ _ h => h) (Or.inl ⟨by rfl, ?_⟩) (by assumption) ?_
      rotate_left
      · intro w hSw
        (try dsimp only at hSw)
        go_simp
        (try (with_reducible rfl))
      try simp only [Act.put, List.setIfInBounds_toArray, List.set_cons_zero, List.set_cons_succ]
      refine wpAnyH_done (by kernel_rfl) ?_ _
      go_wp2
      go_roundg (l.length - (k + 1))
      case measure => omega
      case rel => exact ⟨k + 1, by omega, rfl, by go_num, hHeld.2.2.2.2.2.2.2.2⟩
    · obtain rfl : k = l.length := by omega
      go_wp2
      go_ret
      exact ⟨rfl, hbel⟩
/-- The marks that the law writes into steps. -/
def mkS (k : Int) (n : Nat) : List Stp := (List.range n).map fun (j : Nat) => (k + 4 * (j : Int), k + 4 * (j : Int) + 1, k + 4 * (j : Int) + 1 + 1, (k + 4 * (j : Int) + 1 + 1 + 1) % 3 == 0)
theorem mkS_length (k : Int) (n : Nat) : (mkS k n).length = n := by simp [mkS]
theorem mkS_succ (k : Int) (n : Nat) : mkS k (n + 1) = mkS k n ++ [(k + 4 * (n : Int), k + 4 * (n : Int) + 1, k + 4 * (n : Int) + 1 + 1, (k + 4 * (n : Int) + 1 + 1 + 1) % 3 == 0)] := by simp [mkS, List.range_succ]
theorem mkS_get (k : Int) (n j : Nat) (h : j < n) : (mkS k n)[j]? = some (k + 4 * (j : Int), k + 4 * (j : Int) + 1, k + 4 * (j : Int) + 1 + 1, (k + 4 * (j : Int) + 1 + 1 + 1) % 3 == 0) := by simp [mkS, h]
theorem set4_app (A B : List Value) (v0 v1 v2 v3 x0 x1 x2 x3 : Value) (n : Nat) (hn : A.length = n) :
    (((((A ++ v0 :: v1 :: v2 :: v3 :: B).set n x0).set (n + 1) x1).set (n + 2) x2).set (n + 3) x3) = A ++ x0 :: x1 :: x2 :: x3 :: B := by
  subst hn
  simp [List.set_append, Nat.add_sub_cancel_left]
theorem stepsC_drop : ∀ (l : List Stp) (j : Nat) (s : Stp), l[j]? = some s → (stepsC l).drop (j * 4) = .int .i64 s.1 :: .int .i64 s.2.1 :: .int .i64 s.2.2.1 :: .bool s.2.2.2 :: (stepsC l).drop ((j + 1) * 4)
  | [], j, s, h => by simp at h
  | x :: l, 0, s, h => by
    simp at h
    subst h
    simp [stepsC, stC]
  | x :: l, j + 1, s, h => by
    have ih := stepsC_drop l j s (by simpa using h)
    have e1 : (j + 1) * 4 = j * 4 + 4 := by omega
    have e2 : (j + 1 + 1) * 4 = (j + 1) * 4 + 4 := by omega
    rw [e1, e2]
    exact ih
set_option maxRecDepth 8000 in
set_option maxHeartbeats 2000000 in
theorem markStepS_any (g : Nat) (n cap : Nat) (l : List Stp) (k : Int) (w : World) (hn : l.length = n) (hle : n ≤ 1048576) (hk0 : 0 ≤ k) (hk1 : k ≤ 1000000000) (hR : SRow w g l) :
    Calls Try.prog 31 #[.slice (some ⟨g, 0, none⟩) n cap, .int .i64 k] w fun e w' => e = .returned (.int .i64 (k + 4 * (n : Int))) ∧ SRow w' g (mkS k n) ∧ w.grownBy w' (some g) := by
  subst hn
  go_enter Try.func31, Try.ntmps31
  go_wp2
  go_loopg [1, 5] l.length (fun m q i wr => ∃ j : Nat, j ≤ l.length ∧ m = l.length - j ∧ i = .int .i64 j ∧ q = .int .i64 (k + 4 * (j : Int)) ∧ VRow wr g (stepsC (mkS k j) ++ (stepsC l).drop (j * 4)) 89 ∧ w.grownBy wr (some g))
  case atStart => exact ⟨0, by omega, by omega, rfl, by simp, by simpa [mkS, stepsC] using hR, grown_refl _ _⟩
  case round =>
    obtain ⟨j, hj, hm, rfl, rfl, hr, hG⟩ := hrel
    by_cases hlt : j < l.length
    · have hlt' : (j : Int) < (l.length : Int) := by omega
      obtain ⟨s, hs⟩ : ∃ s, l[j]? = some s := ⟨_, List.getElem?_eq_getElem hlt⟩
      have hA : (stepsC (mkS k j)).length = j * 4 := by rw [stepsC_length, mkS_length]
      rw [stepsC_drop l j s hs] at hr
      have f0 := fun i => hr.free i
      have c0 := hr.cell (j * 4) (.int .i64 s.1) (by rw [List.getElem?_append_right (by omega), hA]; simp)
      have c1 := hr.cell (j * 4 + 1) (.int .i64 s.2.1) (by rw [List.getElem?_append_right (by omega), hA]; simp)
      have c2 := hr.cell (j * 4 + 2) (.int .i64 s.2.2.1) (by rw [List.getElem?_append_right (by omega), hA]; simp)
      have c3 := hr.cell (j * 4 + 3) (.bool s.2.2.2) (by rw [List.getElem?_append_right (by omega), hA]; simp)
      have hR2 := ((((hr.set (j * 4) (.int .i64 (k + 4 * (j : Int)))).set (j * 4 + 1) (.int .i64 (k + 4 * (j : Int) + 1))).set (j * 4 + 2) (.int .i64 (k + 4 * (j : Int) + 1 + 1))).set (j * 4 + 3) (.bool ((k + 4 * (j : Int) + 1 + 1 + 1) % 3 == 0))).wf (set4_app _ _ _ _ _ _ _ _ _ _ _ hA)
      have hR3 := Lib.hid (hR2.wf (show _ = stepsC (mkS k (j + 1)) ++ (stepsC l).drop ((j + 1) * 4) by rw [mkS_succ, stepsC_append]; simp [stepsC, stC]))
      have hG3 := Lib.hid (grown_set (v := .bool ((k + 4 * (j : Int) + 1 + 1 + 1) % 3 == 0)) (o := j * 4 + 3) (grown_set (v := .int .i64 (k + 4 * (j : Int) + 1 + 1)) (o := j * 4 + 2) (grown_set (v := .int .i64 (k + 4 * (j : Int) + 1)) (o := j * 4 + 1) (grown_set (v := .int .i64 (k + 4 * (j : Int))) (o := j * 4) hG))))
      clear hR2 hr hs hA
      go_wp2
      go_roundg (l.length - (j + 1))
      case measure => omega
      case rel =>
        exact ⟨j + 1, by omega, rfl, by go_num, by go_num, hR3.out, hG3.out⟩
    · obtain rfl : j = l.length := by omega
      have hfin := Lib.hid hr
      clear hr
      go_wp2
      go_ret
      refine ⟨rfl, hfin.out.wf ?_, hG⟩
      rw [List.drop_eq_nil_of_le (by rw [stepsC_length]; omega), List.append_nil]
set_option maxHeartbeats 1000000 in
theorem markStepS_nil (cap : Nat) (k : Int) (w : World) :
    Calls Try.prog 31 #[.slice none 0 cap, .int .i64 k] w fun e w' => e = .returned (.int .i64 k) ∧ w = w' := by
  go_enter Try.func31, Try.ntmps31
  go_wp2
  refine wp_loop_rounds 1 ?_
  rw [rounds_succ]
  go_wp2
  go_ret
  exact ⟨rfl, rfl⟩
/-- Marking steps of the call's own: they alone change. -/
theorem markSt_own (lo hi : Nat) (a : Option Addr) (n cap : Nat) (l : List Stp) (k : Int) (w : World) (hn : l.length = n) (hle : n ≤ 1048576) (k0 : 0 ≤ k) (k1 : k ≤ 1000000000) (h : OSt lo hi w a l) :
    Calls Try.prog 31 #[.slice a n cap, .int .i64 k] w fun e w' => e = .returned (.int .i64 (k + 4 * (n : Int))) ∧ OSt lo hi w' a (mkS k n) ∧ Same lo hi w w' := by
  rcases h with ⟨rfl, rfl⟩ | ⟨g, rfl, h1, h2, r⟩
  · obtain rfl : 0 = n := hn
    refine (markStepS_nil cap k w).mono ?_
    rintro e w' ⟨rfl, rfl⟩
    exact ⟨by simp, .inl ⟨rfl, rfl⟩, rfl, rfl, rfl, Nat.le_refl _, fun i hi _ => rfl⟩
  · refine (markStepS_any g n cap l k w hn hle k0 k1 r).mono ?_
    rintro e w' ⟨rfl, q, hg⟩
    exact ⟨rfl, .inr ⟨g, rfl, h1, h2, q⟩, hg.os, hg.tape, hg.output, hg.size, fun i hi ho => hg.block i hi (fun e => by cases e; omega)⟩
set_option maxRecDepth 8000 in
set_option maxHeartbeats 2000000 in
theorem heldStepS_any (lo hi : Nat) (a : Option Addr) (n cap : Nat) (k : Int) (w : World) (hle : n ≤ 1048576) (hk0 : 0 ≤ k) (hk1 : k ≤ 1000000000) (hr : OSt lo hi w a (mkS k n)) :
    Calls Try.prog 64 #[.slice a n cap, .int .i64 k] w fun e w' => e = .returned (.int .i64 (k + 4 * (n : Int))) ∧ w = w' := by
  go_enter Try.func64, Try.ntmps64
  go_wp2
  go_loopg [1, 5] n (fun m q i wr => w = wr ∧ ∃ j : Nat, j ≤ n ∧ m = n - j ∧ i = .int .i64 j ∧ q = .int .i64 (k + 4 * (j : Int)))
  case atStart => exact ⟨rfl, 0, by omega, by omega, rfl, by simp⟩
  case round =>
    obtain ⟨rfl, j, hj, hm, rfl, rfl⟩ := hrel
    by_cases hlt : j < n
    · have hlt' : (j : Int) < (n : Int) := by omega
      obtain ⟨g, rfl, R⟩ := hr.row (k := j) (by rw [mkS_length]; exact hlt)
      obtain ⟨u0, u1, u2, u3⟩ := R.four j _ (mkS_get k n j hlt)
      dsimp only at u0 u1 u2 u3
      clear R hr
      go_wp2
      go_roundg (n - (j + 1))
      case measure => omega
      case rel => exact ⟨rfl, j + 1, by omega, rfl, by go_num, by go_num⟩
    · obtain rfl : j = n := by omega
      clear hr
      go_wp2
      go_ret
      exact ⟨rfl, rfl⟩
end Go.Proofs.Ytaedcmmomenilaa
