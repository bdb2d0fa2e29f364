/- Contracts of the program and of its model on the place of a play. -/
import Derived.Test.YtciljbnailobgaaGreatV21
import Derived.Test.YtciljbnailobgaaGreatV16
import Derived.Test.YtciljbnailobgaaGreatV19
import Derived.Test.YtciljbnailobgaaGreatV11
namespace Go.Proofs.YtciljbnailobgaaGreat
open Go.ChangeShapes Go.WideShapes Go.ChangeAt Go.RowKit
set_option linter.unusedVariables false
set_option linter.unusedSimpArgs false
set_option maxRecDepth 4000
def isAt (us vs : List Int) (x : PP) : Bool := decide (x.2.2.1 = us) && decide (x.2.2.2 = vs)
theorem findP_first (us vs : List Int) : ∀ (l : List PP) (n : Nat), findP (us, vs) (l.map Prod.snd) n = if firstE (isAt us vs) l < 0 then -1 else firstE (isAt us vs) l + n
  | [], n => rfl
  | x :: l, n => by
    rw [List.map_cons, findP, firstE]
    have ih := findP_first us vs l (n + 1)
    have hl := (firstE_low (isAt us vs) l).1
    by_cases e : x.2.2 = (us, vs)
    · have e2 : isAt us vs x = true := by unfold isAt; simp [e]
      rw [if_pos e, if_pos e2]
      simp
    · have e2 : ¬ isAt us vs x = true := by
        unfold isAt
        intro h
        simp at h
        exact e (Prod.ext h.1 h.2)
      rw [if_neg e, if_neg e2, ih]
      by_cases h3 : firstE (isAt us vs) l < 0
      · rw [if_pos h3, if_pos h3]; rfl
      · rw [if_neg h3, if_neg h3, if_neg (by omega)]
        omega
theorem findP_zero (us vs : List Int) (l : List PP) : findP (us, vs) (l.map Prod.snd) 0 = firstE (isAt us vs) l := by
  have hl := (firstE_low (isAt us vs) l).1
  rw [findP_first]
  split <;> omega
def fpV (p c h s : Int) (xs ys : List Int) (ra rb : Int) (us vs : List Int) : Value :=
  if apC p c h s xs ys ra rb = 0 then (if findP (us, vs) (apL p c h s xs ys ra rb) 0 < 0 then .tuple #[.int .i64 0, .int .i64 4] else .tuple #[.int .i64 (findP (us, vs) (apL p c h s xs ys ra rb) 0), .int .i64 0]) else .tuple #[.int .i64 0, .int .i64 (apC p c h s xs ys ra rb)]
theorem apL_small {p c h s : Int} {xs ys : List Int} {ra rb : Int} : ∀ q ∈ apL p c h s xs ys ra rb, q.2.1.length ≤ 1048576 ∧ q.2.2.length ≤ 1048576 := by
  intro q hq
  unfold apL at hq
  split at hq
  · rename_i g0
    split at hq
    · obtain ⟨g, e⟩ := codeB_zero g0
      obtain ⟨e1, e2⟩ := rlB_two e
      have gp := isB_parts g
      obtain ⟨P, rfl⟩ := Int.eq_ofNat_of_zero_le (by omega : 0 ≤ p)
      rw [show ((P : Int)).toNat = P by simp] at hq
      have hf := allTo_fine (U := usedP P h xs ys ra rb) (l := ordersP ra rb) g (fun o ho => by obtain ⟨j, hj⟩ := List.mem_iff_getElem?.1 ho; exact (ordersP_mem e1 e2 hj).2) (ordersP ra rb).length q hq
      have gq := isB_parts hf
      omega
    · simp at hq
  · simp at hq
theorem apL_len {p c h s : Int} {xs ys : List Int} {ra rb : Int} : (apL p c h s xs ys ra rb).length ≤ 1000000 := by
  unfold apL
  split
  · rename_i g0
    split
    · obtain ⟨g, e⟩ := codeB_zero g0
      obtain ⟨e1, e2⟩ := rlB_two e
      have gp := isB_parts g
      obtain ⟨P, rfl⟩ := Int.eq_ofNat_of_zero_le (by omega : 0 ≤ p)
      rw [show ((P : Int)).toNat = P by simp]
      have := allTo_length P h xs ys (usedP P h xs ys ra rb) 390625 (ordersP ra rb) (fun o ho => longP_four (by omega) h o xs ys (by obtain ⟨j, hj⟩ := List.mem_iff_getElem?.1 ho; exact (ordersP_mem e1 e2 hj).1)) (ordersP ra rb).length
      have h2 := ordersP_length ra rb
      unfold allP
      have h3 : (ordersP ra rb).length * 390625 ≤ 2 * 390625 := Nat.mul_le_mul_right _ h2
      omega
    · simp
  · simp
set_option maxRecDepth 8000 in
theorem find1_any (x : PP) (B7 : Nat) (b1 b2 : Option Addr) (m1 m2 d1 d2 lo hi : Nat) (us vs : List Int) (w : World) (hB : Blk w B7 #[.slice b1 m1 d1, .slice b2 m2 d2] 28) (hx : PAt lo hi w x) (q1 : x.2.2.1.length ≤ 1048576) (q2 : x.2.2.2.length ≤ 1048576) (g1 : us.length = m1) (g2 : vs.length = m2) (k1 : m1 ≤ 1048576) (k2 : m2 ≤ 1048576) (s1 : IRow w b1 us) (s2 : IRow w b2 vs) :
    Calls Tryz.prog 33 #[plV x, .pointer (some ⟨B7, 0, none⟩)] w fun e w' => e = .returned (.bool (isAt us vs x)) ∧ Below w.heap.size w w' := by
  have BX := Blk.new w #[pl0 x, pl1 x, pl2 x] 44
  have hb : Below w.heap.size w (w.alloc (.cells #[pl0 x, pl1 x, pl2 x] 44)) := (Below.refl _ _).alloc (Nat.le_refl _) _
  have he := fun W (hW : Below w.heap.size w W) => boardEquals_any x.1.b1 x.1.b2 b1 b2 x.2.2.1.length x.2.2.2.length m1 m2 x.1.k1 x.1.k2 d1 d2 x.2.2.1 x.2.2.2 us vs W rfl rfl g1 g2 q1 q2 k1 k2 (hx.2.irow1.below hW) (hx.2.irow2.below hW) (s1.below hW) (s2.below hW)
  have hi : (decide (x.2.2.1 = us) && decide (x.2.2.2 = vs)) = isAt us vs x := rfl
  rw [hi] at he
  obtain ⟨R, hR⟩ : ∃ R, isAt us vs x = R := ⟨_, rfl⟩
  rw [hR] at he ⊢
  have HE := Lib.hid he
  clear he hi hR
  obtain ⟨x0, x1, x2, xf, xl⟩ := BX.tri
  obtain ⟨y0, y1, yf, yl⟩ := (hB.below hb).two
  go_enter Tryz.func33, Tryz.ntmps33
  go_wp2_with fail
  refine (HE.out _ hb).mono ?_
  rintro e w1 ⟨rfl, hb1⟩
  go_wp2
  go_ret
  exact ⟨rfl, chain hb hb1⟩
theorem find1_enter (args : Array Value) (w : World) : (callFunc 33 args).run Tryz.prog w = .ok (.enter 33 args) w := by
  obtain ⟨fn, hf, hn, cc, hc⟩ : ∃ fn, Tryz.prog.funcs[(33 : FuncId)]? = some fn ∧ (fn.name == "runtime.NumGoroutine") = false ∧ ∃ cc, fn.body = some cc := ⟨_, Tryz.func33, by kernel_rfl, _, rfl⟩
  have h1 : ¬ fn.name = "runtime.NumGoroutine" := by simpa using hn
  simp [callFunc, hf, h1, hc]
set_option maxRecDepth 8000 in
set_option maxHeartbeats 2000000 in
theorem implFindPlay_any (ra rb : Int) (p c h s : Int) (a1 a2 : Option Addr) (n1 n2 c1 c2 : Nat) (xs ys : List Int) (b1 b2 : Option Addr) (m1 m2 d1 d2 : Nat) (us vs : List Int) (w : World) (h1 : xs.length = n1) (h2 : ys.length = n2) (l1 : n1 ≤ 1048576) (l2 : n2 ≤ 1048576) (r1 : IRow w a1 xs) (r2 : IRow w a2 ys) (g1 : us.length = m1) (g2 : vs.length = m2) (k1 : m1 ≤ 1048576) (k2 : m2 ≤ 1048576) (s1 : IRow w b1 us) (s2 : IRow w b2 vs) :
    Calls Tryz.prog 15 #[.agg #[.int .i64 p, .int .i64 c, .int .i64 h, .int .i64 s], .agg #[.slice a1 n1 c1, .slice a2 n2 c2], .agg #[.int .i64 ra, .int .i64 rb], .agg #[.slice b1 m1 d1, .slice b2 m2 d2]] w fun e w' => e = .returned (fpV p c h s xs ys ra rb us vs) ∧ Below w.heap.size w w' := by
  have hap := fun W (q1 : IRow W a1 xs) (q2 : IRow W a2 ys) => implAllPlays_any ra rb p c h s a1 a2 n1 n2 c1 c2 xs ys W h1 h2 l1 l2 q1 q2
  have hsm := apL_small (p := p) (c := c) (h := h) (s := s) (xs := xs) (ys := ys) (ra := ra) (rb := rb)
  have hln := apL_len (p := p) (c := c) (h := h) (s := s) (xs := xs) (ys := ys) (ra := ra) (rb := rb)
  unfold fpV
  unfold PlaysGot2 at hap
  obtain ⟨AC, hAC⟩ : ∃ z, apC p c h s xs ys ra rb = z := ⟨_, rfl⟩
  obtain ⟨AA, hAA⟩ : ∃ z, apL p c h s xs ys ra rb = z := ⟨_, rfl⟩
  rw [hAC, hAA] at hap
  rw [hAA] at hsm hln
  rw [hAC, hAA]
  have hfb := findP_bound (us, vs) AA 0
  obtain ⟨FF, hFF⟩ : ∃ z, findP (us, vs) AA 0 = z := ⟨_, rfl⟩
  rw [hFF] at hfb ⊢
  have HAP := Lib.hid hap
  have HSM := Lib.hid hsm
  have HFF := Lib.hid hFF
  clear hap hsm hAC hAA hFF
  have BV := ((((Blk.new w #[.int .i64 p, .int .i64 c, .int .i64 h, .int .i64 s] 25).alloc (.cells #[.slice a1 n1 c1, .slice a2 n2 c2] 28)).alloc (.cells #[.int .i64 ra, .int .i64 rb] 30)).alloc (.cells #[.slice b1 m1 d1, .slice b2 m2 d2] 28))
  obtain ⟨-, BB, BR, hb3, hz3⟩ := three_new w #[.int .i64 p, .int .i64 c, .int .i64 h, .int .i64 s] #[.slice a1 n1 c1, .slice a2 n2 c2] #[.int .i64 ra, .int .i64 rb] 25 28 30
  replace BB := BB.alloc (.cells #[.slice b1 m1 d1, .slice b2 m2 d2] 28)
  replace BR := BR.alloc (.cells #[.slice b1 m1 d1, .slice b2 m2 d2] 28)
  have BD := Blk.new (((w.alloc (.cells #[.int .i64 p, .int .i64 c, .int .i64 h, .int .i64 s] 25)).alloc (.cells #[.slice a1 n1 c1, .slice a2 n2 c2] 28)).alloc (.cells #[.int .i64 ra, .int .i64 rb] 30)) #[.slice b1 m1 d1, .slice b2 m2 d2] 28
  rw [hz3] at BD
  have hb : Below w.heap.size w ((((w.alloc (.cells #[.int .i64 p, .int .i64 c, .int .i64 h, .int .i64 s] 25)).alloc (.cells #[.slice a1 n1 c1, .slice a2 n2 c2] 28)).alloc (.cells #[.int .i64 ra, .int .i64 rb] 30)).alloc (.cells #[.slice b1 m1 d1, .slice b2 m2 d2] 28)) := hb3.alloc hb3.size _
  clear hb3 hz3
  obtain ⟨x0, x1, x2, x3, xf, xl⟩ := BV.four
  obtain ⟨y0, y1, yf, yl⟩ := BB.two
  obtain ⟨z0, z1, zf, zl⟩ := BR.two
  by_cases e0 : AC = 0
  · subst e0
    rw [if_pos rfl]
    obtain ⟨RV, hRV⟩ : ∃ z, (if FF < 0 then (.tuple #[.int .i64 0, .int .i64 4] : Value) else .tuple #[.int .i64 FF, .int .i64 0]) = z := ⟨_, rfl⟩
    rw [hRV]
    have HRV := Lib.hid hRV
    clear hRV
    go_enter Tryz.func15, Tryz.ntmps15
    go_wp2_with fail
    clear x0 x1 x2 x3 xf xl y0 y1 yf yl z0 z1 zf zl
    generalize ((((w.alloc (.cells #[.int .i64 p, .int .i64 c, .int .i64 h, .int .i64 s] 25)).alloc (.cells #[.slice a1 n1 c1, .slice a2 n2 c2] 28)).alloc (.cells #[.int .i64 ra, .int .i64 rb] 30)).alloc (.cells #[.slice b1 m1 d1, .slice b2 m2 d2] 28)) = v0 at *
    refine (HAP.out _ (r1.below hb) (r2.below hb)).mono ?_
    rintro e w1 ⟨aL, kL, L, rfl, hLm, hLO, hLA, hb1⟩
    have hLl : L.length ≤ 1000000 := by have := congrArg List.length hLm; rw [List.length_map] at this; omega
    have hbox : w.heap.size < v0.heap.size := by have := BV.lt; omega
    have HLM := Lib.hid hLm
    clear hLm
    have hsec := indexP_any w.heap.size w1.heap.size aL kL L 33 #[.pointer (some ⟨w.heap.size + 1 + 1 + 1, 0, none⟩)] (isAt us vs) w1 (by omega) (hLO.mono (Nat.le_of_lt hbox) (Nat.le_refl _)) find1_enter (fun W hW x hx => find1_any x (w.heap.size + 1 + 1 + 1) b1 b2 m1 m2 d1 d2 v0.heap.size w1.heap.size us vs W (BD.below (chain hb1 hW)) ((hLA x hx).below hW) (HSM.out x.2 (by rw [← HLM.out]; exact List.mem_map.2 ⟨x, hx, rfl⟩)).1 (HSM.out x.2 (by rw [← HLM.out]; exact List.mem_map.2 ⟨x, hx, rfl⟩)).2 g1 g2 k1 k2 (s1.below (chain (chain hb hb1) hW)) (s2.below (chain (chain hb hb1) hW)))
    rw [← findP_zero, HLM.out] at hsec
    rw [HFF.out] at hsec
    have HSEC := Lib.hid hsec
    clear hsec
    obtain ⟨u0, u1, uf, ul⟩ := (BD.below hb1).two
    go_wp2_with fail
    refine (HSEC.out).mono ?_
    rintro e w2 ⟨rfl, hb2⟩
    have hrv := HRV.out
    clear HRV
    by_cases f0 : FF < 0
    · rw [if_pos f0] at hrv
      subst hrv
      go_wp2
      go_ret2
      exact ⟨rfl, chain (chain hb hb1) hb2⟩
    · rw [if_neg f0] at hrv
      subst hrv
      go_wp2
      go_ret2
      exact ⟨rfl, chain (chain hb hb1) hb2⟩
  · rw [if_neg e0]
    have f1 : (AC != 0) = true := by rw [bne_iff_ne]; exact e0
    go_enter Tryz.func15, Tryz.ntmps15
    go_wp2_with fail
    clear x0 x1 x2 x3 xf xl y0 y1 yf yl z0 z1 zf zl
    generalize ((((w.alloc (.cells #[.int .i64 p, .int .i64 c, .int .i64 h, .int .i64 s] 25)).alloc (.cells #[.slice a1 n1 c1, .slice a2 n2 c2] 28)).alloc (.cells #[.int .i64 ra, .int .i64 rb] 30)).alloc (.cells #[.slice b1 m1 d1, .slice b2 m2 d2] 28)) = v0 at *
    refine (HAP.out _ (r1.below hb) (r2.below hb)).mono ?_
    rintro e w1 ⟨aL, kL, L, rfl, -, -, -, hb1⟩
    go_wp2
    go_ret2
    exact ⟨rfl, chain hb hb1⟩
end Go.Proofs.YtciljbnailobgaaGreat
