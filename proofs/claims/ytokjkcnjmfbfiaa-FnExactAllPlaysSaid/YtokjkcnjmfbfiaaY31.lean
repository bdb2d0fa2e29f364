/- The exact law of chapter 5 on all plays of a roll holds: for every input the law returns true and its arguments read behind the call as they read before. No conditions. -/
import Derived.Test.YtokjkcnjmfbfiaaY29
import Derived.Test.YtokjkcnjmfbfiaaY30
import Derived.Test.YtokjkcnjmfbfiaaY26
import Derived.ChangeOld
namespace Go.Proofs.Ytokjkcnjmfbfiaa
open Go.ChangeMaps (open_string shut_string)
open Go.ChangeShapes Go.WideShapes Go.ChangeAt Go.RowKit
set_option linter.unusedVariables false
set_option linter.unusedSimpArgs false
set_option maxRecDepth 4000

theorem toRoll_br (a b : Int) (w : World) :
    Calls Try.prog 19 #[.agg #[.int .i64 a, .int .i64 b]] w fun e w' => e = .returned (.agg #[.int .i64 a, .int .i64 b]) ∧ Below w.heap.size w w' := by
  go_enter Try.func19, Try.ntmps19
  go_wp2
  refine bodyPost_ret (v := .agg #[.int .i64 a, .int .i64 b]) (by simp [results, Try.results19, go_sem]) rfl ⟨rfl, ?_⟩
  first
    | exact (((Below.refl _ _).alloc (Nat.le_refl _) _).alloc (by simp) _).alloc (by simp; omega) _
    | exact ((Below.refl _ _).alloc (Nat.le_refl _) _).alloc (by simp) _
theorem OPl.same {lo hi lo2 hi2 : Nat} {w w' : World} {a : Option Addr} {l : List PP} (h : OPl lo2 hi2 w a l) (hs : Same lo hi w w') (hd : hi2 ≤ lo ∨ hi ≤ lo2) : OPl lo2 hi2 w' a l := by
  rcases h with h | ⟨g, e, q1, q2, cur, hB, r⟩
  · exact .inl h
  · exact .inr ⟨g, e, q1, q2, cur, Blk.same hB hs (by omega), r⟩
theorem PAll.same {lo hi lo2 hi2 : Nat} {w w' : World} {l : List PP} (h : PAll lo2 hi2 w l) (hs : Same lo hi w w') (hd : hi2 ≤ lo ∨ hi ≤ lo2) : PAll lo2 hi2 w' l := fun x hx => by
  refine ⟨?_, ?_⟩
  · rcases (h x hx).1 with h | ⟨g, e, q1, q2, cur, hB, r⟩
    · exact .inl h
    · exact .inr ⟨g, e, q1, q2, cur, Blk.same hB hs (by omega), r⟩
  · exact (h x hx).2.same hs hd
theorem allTo_from {P : Nat} {h : Int} {xs ys : List Int} {U : Nat} {l : List (List Int)} : ∀ (k : Nat) (q : Ply), q ∈ allTo P h xs ys U l k → ∃ o ∈ l, q ∈ longP P h o (startP xs ys)
  | 0, q, hq => by simp [allTo] at hq
  | k + 1, q, hq => by
    rw [allTo] at hq
    cases e : l[k]? with
    | none => rw [e] at hq; exact allTo_from k q hq
    | some o =>
      rw [e] at hq
      dsimp only at hq
      unfold allStep at hq
      split at hq
      · exact allTo_from k q hq
      · rcases addAll_mem hq with hq | hq
        · exact allTo_from k q hq
        · exact ⟨o, List.mem_of_getElem? e, hq⟩
theorem apL_size {p c h s : Int} {xs ys : List Int} {ra rb : Int} : ∀ q ∈ apL p c h s xs ys ra rb, 4 * q.1.length + q.2.1.length + q.2.2.length ≤ 500 ∧ 0 < q.2.1.length := by
  intro q hq
  unfold apL at hq
  split at hq
  · rename_i g0
    split at hq
    · obtain ⟨g, e⟩ := codeB_zero g0
      obtain ⟨e1, e2⟩ := rlB_two e
      have gp := isB_parts g
      obtain ⟨P, rfl⟩ := Int.eq_ofNat_of_zero_le (by omega : 0 ≤ p)
      rw [show ((P : Int)).toNat = P by simp] at hq
      have hf := allTo_fine (U := usedP P h xs ys ra rb) (l := ordersP ra rb) g (fun o ho => by obtain ⟨j, hj⟩ := List.mem_iff_getElem?.1 ho; exact (ordersP_mem e1 e2 hj).2) (ordersP ra rb).length q hq
      have gq := isB_parts hf
      obtain ⟨o, ho, hl⟩ := allTo_from _ q hq
      obtain ⟨j, hj⟩ := List.mem_iff_getElem?.1 ho
      have h4 := (ordersP_mem e1 e2 hj).1
      have hs := levels_steps P h o (startP xs ys) 0 (fun q hq => by simp [startP] at hq; rw [hq]; simp) _ (List.mem_of_getElem? (levels_last P h o (startP xs ys))) q hl
      omega
    · simp at hq
  · simp at hq
theorem fnExactAllPlays_both (p c h s : Int) (xs ys : List Int) (ra rb : Int) : ∃ (ps : List Ply) (r : Int), ps.length ≤ 1000000 ∧ (∀ q ∈ ps, 4 * q.1.length + q.2.1.length + q.2.2.length ≤ 500 ∧ 0 < q.2.1.length) ∧ (∀ (a1 a2 : Option Addr) (n1 n2 c1 c2 : Nat) (w : World), xs.length = n1 → ys.length = n2 → n1 ≤ 1048576 → n2 ≤ 1048576 → IRow w a1 xs → IRow w a2 ys → Calls Try.prog 22 #[.agg #[.int .i64 p, .int .i64 c, .int .i64 h, .int .i64 s], .agg #[.slice a1 n1 c1, .slice a2 n2 c2], .agg #[.int .i64 ra, .int .i64 rb]] w (PlaysGot2 ps r w)) ∧ (∀ (a1 a2 : Option Addr) (n1 n2 c1 c2 : Nat) (w : World), xs.length = n1 → ys.length = n2 → n1 ≤ 1048576 → n2 ≤ 1048576 → IRow w a1 xs → IRow w a2 ys → Calls Try.prog 23 #[.agg #[.int .i64 p, .int .i64 c, .int .i64 h, .int .i64 s], .agg #[.slice a1 n1 c1, .slice a2 n2 c2], .agg #[.int .i64 ra, .int .i64 rb]] w (PlaysGotD ps r w)) :=
  ⟨_, _, apL_len, apL_size, fun a1 a2 n1 n2 c1 c2 w h1 h2 l1 l2 r1 r2 => specAllPlays_any ra rb p c h s a1 a2 n1 n2 c1 c2 xs ys w h1 h2 l1 l2 r1 r2, fun a1 a2 n1 n2 c1 c2 w h1 h2 l1 l2 r1 r2 => implAllPlaysD_any ra rb p c h s a1 a2 n1 n2 c1 c2 xs ys w h1 h2 l1 l2 r1 r2⟩
set_option maxRecDepth 8000 in
set_option maxHeartbeats 4000000 in
theorem fnExactAllPlays_walk (p c h s : Int) (a1 a2 : Option Addr) (n1 n2 c1 c2 : Nat) (xs ys : List Int) (ra rb : Int) (w : World) (h1 : xs.length = n1) (h2 : ys.length = n2) (m1 : n1 ≤ 9223372036854775807) (m2 : n2 ≤ 9223372036854775807) (r1 : IRow w a1 xs) (r2 : IRow w a2 ys) :
    Calls Try.prog 4 #[.agg #[.int .i64 p, .int .i64 c, .int .i64 h, .int .i64 s], .agg #[.slice a1 n1 c1, .slice a2 n2 c2], .agg #[.int .i64 ra, .int .i64 rb]] w fun e w' => e = .returned (.bool true) ∧ Below w.heap.size w w' := by
  obtain ⟨BV, BB, BS, hb, hz⟩ := three_new w #[.int .i64 p, .int .i64 c, .int .i64 h, .int .i64 s] #[.slice a1 n1 c1, .slice a2 n2 c2] #[.int .i64 ra, .int .i64 rb] 23 26 28
  have hz0 : w.heap.size + 1 + 1 < (((w.alloc (.cells #[.int .i64 p, .int .i64 c, .int .i64 h, .int .i64 s] 23)).alloc (.cells #[.slice a1 n1 c1, .slice a2 n2 c2] 26)).alloc (.cells #[.int .i64 ra, .int .i64 rb] 28)).heap.size := by rw [hz]; omega
  clear hz
  have hsz := fun w => szBoard_any a1 a2 n1 n2 c1 c2 1048576 w (by omega) (by omega) m1 m2
  obtain ⟨y0, y1, yf, yl⟩ := BB.two
  by_cases hneg : szAfter 1048576 n1 n2 = -1
  · rw [hneg] at hsz
    have HZ := Lib.hid hsz
    clear hsz hneg
    go_enter Try.func4, Try.ntmps4
    go_wp2_with fail
    generalize (((w.alloc (.cells #[.int .i64 p, .int .i64 c, .int .i64 h, .int .i64 s] 23)).alloc (.cells #[.slice a1 n1 c1, .slice a2 n2 c2] 26)).alloc (.cells #[.int .i64 ra, .int .i64 rb] 28)) = v0 at *
    refine (HZ.out _).mono ?_
    rintro e w1 ⟨rfl, hb1⟩
    go_wp2
    go_ret
    exact ⟨rfl, hb.trans (hb1.mono (by omega))⟩
  · have hle : (n1 : Int) + n2 ≤ 1048576 := by
      unfold szAfter at hneg
      split at hneg
      · exact absurd rfl hneg
      · split at hneg
        · exact absurd rfl hneg
        · omega
    obtain ⟨z, hzz⟩ : ∃ z, szAfter 1048576 n1 n2 = z := ⟨_, rfl⟩
    have hzp : 0 ≤ z := by
      rw [← hzz]
      unfold szAfter
      rw [if_neg (by omega), if_neg (by omega)]
      omega
    rw [hzz] at hsz
    have HZ := Lib.hid hsz
    clear hsz hneg hzz
    have l1 : n1 ≤ 1048576 := by omega
    have l2 : n2 ≤ 1048576 := by omega
    subst h1 h2
    obtain ⟨ps, r, hlp, hps, hsp, him⟩ := fnExactAllPlays_both p c h s xs ys ra rb
    have HSP := Lib.hid hsp
    have HIM := Lib.hid him
    clear hsp him
    have HPS := Lib.hid hps
    clear hps
    go_enter Try.func4, Try.ntmps4
    go_wp2_with fail
    clear y0 y1 yf yl
    generalize (((w.alloc (.cells #[.int .i64 p, .int .i64 c, .int .i64 h, .int .i64 s] 23)).alloc (.cells #[.slice a1 xs.length c1, .slice a2 ys.length c2] 26)).alloc (.cells #[.int .i64 ra, .int .i64 rb] 28)) = v0 at *
    refine (HZ.out _).mono ?_
    rintro e w0 ⟨rfl, hb1⟩
    replace BV := BV.below hb1
    replace BB := BB.below hb1
    replace BS := BS.below hb1
    have hlt0 : w.heap.size + 1 + 1 < w0.heap.size := BS.lt
    replace hb := hb.trans (hb1.mono (by omega))
    clear hb1 hz0 HZ
    obtain ⟨q0_BV, q1_BV, q2_BV, q3_BV, qf_BV, ql_BV⟩ := BV.four
    obtain ⟨q0_BB, q1_BB, qf_BB, ql_BB⟩ := BB.two
    obtain ⟨q0_BS, q1_BS, qf_BS, ql_BS⟩ := BS.two
    go_wp2_with fail
    clear q0_BV q1_BV q2_BV q3_BV qf_BV ql_BV
    clear q0_BB q1_BB qf_BB ql_BB
    clear q0_BS q1_BS qf_BS ql_BS
    have hd1 : w0.drew.heap.size = w0.heap.size := rfl
    replace BV := BV.drew
    replace BB := BB.drew
    replace BS := BS.drew
    replace hb := hb.drew
    refine wp_region_held_drew (S := fun w' => w'.cell? ⟨w.heap.size, 0, none⟩ = some (.int .i64 p) ∧ w'.cell? ⟨w.heap.size, 1, none⟩ = some (.int .i64 c) ∧ w'.cell? ⟨w.heap.size, 2, none⟩ = some (.int .i64 h) ∧ w'.cell? ⟨w.heap.size, 3, none⟩ = some (.int .i64 s) ∧ w'.cell? ⟨(w.heap.size + 1), 0, none⟩ = some (.slice a1 xs.length c1) ∧ w'.cell? ⟨(w.heap.size + 1), 1, none⟩ = some (.slice a2 ys.length c2) ∧ w'.cell? ⟨(w.heap.size + 1 + 1), 0, none⟩ = some (.int .i64 ra) ∧ w'.cell? ⟨(w.heap.size + 1 + 1), 1, none⟩ = some (.int .i64 rb)) (by kernel_rfl) ⟨BV.four.1, BV.four.2.1, BV.four.2.2.1, BV.four.2.2.2.1, BB.two.1, BB.two.2.1, BS.two.1, BS.two.2.1⟩ (fun hHeld => ?_)
    clear hHeld
    generalize w0.drew = vd1 at *
    have hHeld : vd1.cell? ⟨w.heap.size, 0, none⟩ = some (.int .i64 p) ∧ vd1.cell? ⟨w.heap.size, 1, none⟩ = some (.int .i64 c) ∧ vd1.cell? ⟨w.heap.size, 2, none⟩ = some (.int .i64 h) ∧ vd1.cell? ⟨w.heap.size, 3, none⟩ = some (.int .i64 s) ∧ vd1.cell? ⟨(w.heap.size + 1), 0, none⟩ = some (.slice a1 xs.length c1) ∧ vd1.cell? ⟨(w.heap.size + 1), 1, none⟩ = some (.slice a2 ys.length c2) ∧ vd1.cell? ⟨(w.heap.size + 1 + 1), 0, none⟩ = some (.int .i64 ra) ∧ vd1.cell? ⟨(w.heap.size + 1 + 1), 1, none⟩ = some (.int .i64 rb) := ⟨BV.four.1, BV.four.2.1, BV.four.2.2.1, BV.four.2.2.2.1, BB.two.1, BB.two.2.1, BS.two.1, BS.two.2.1⟩
    refine wpAnyH_take (i := 0) (oi := { dst := some 24, op := _, type := _, pos := _, after := _, guard := _ }) (v := ?_) rfl (by kernel_rfl) (by kernel_rfl) (by kernel_rfl) (fun _ _ _ h => h) (Or.inl ⟨by rfl, ?_⟩) (by assumption) ?_
    rotate_left
    · intro w hSw
      (try dsimp only at hSw)
      go_simp
      (try (with_reducible rfl))
    try simp only [Act.put, List.setIfInBounds_toArray, List.set_cons_zero, List.set_cons_succ]
    refine wpAnyH_take (i := 2) (oi := { dst := some 26, op := _, type := _, pos := _, after := _, guard := _ }) (v := ?_) rfl (by kernel_rfl) (by kernel_rfl) (by kernel_rfl) (fun _ _ _ h => h) (Or.inl ⟨by rfl, ?_⟩) (by assumption) ?_
    rotate_left
    · intro w hSw
      (try dsimp only at hSw)
      go_simp
      (try (with_reducible rfl))
    try simp only [Act.put, List.setIfInBounds_toArray, List.set_cons_zero, List.set_cons_succ]
    refine wpAnyH_take (i := 4) (oi := { dst := some 28, op := _, type := _, pos := _, after := _, guard := _ }) (v := ?_) rfl (by kernel_rfl) (by kernel_rfl) (by kernel_rfl) (fun _ _ _ h => h) (Or.inl ⟨by rfl, ?_⟩) (by assumption) ?_
    rotate_left
    · intro w hSw
      (try dsimp only at hSw)
      go_simp
      (try (with_reducible rfl))
    try simp only [Act.put, List.setIfInBounds_toArray, List.set_cons_zero, List.set_cons_succ]
    refine wpAnyH_ready (rs := [1]) (by kernel_rfl) (by simp) ?_
    refine AllReadyH.cons (o := { dst := some 25, op := _, type := _, pos := _, after := _, guard := _ }) rfl (fun K hK => ?_) AllReadyH.nil
    go_simp
    refine (toVariant_any _ _ _ _ _).mono ?_
    rintro e w2 ⟨rfl, hb2⟩
    replace BV := BV.below hb2
    replace BB := BB.below hb2
    replace BS := BS.below hb2
    have hz2 := hb2.size
    replace hb := chain hb hb2
    clear hb2
    (try go_wp2_with fail)
    refine hK.out _ _ ⟨BV.four.1, BV.four.2.1, BV.four.2.2.1, BV.four.2.2.2.1, BB.two.1, BB.two.2.1, BS.two.1, BS.two.2.1⟩ (fun hHeld => ?_)
    clear hK K
    try simp only [Act.put, List.setIfInBounds_toArray, List.set_cons_zero, List.set_cons_succ]
    refine wpAnyH_ready (rs := [3]) (by kernel_rfl) (by simp) ?_
    refine AllReadyH.cons (o := { dst := some 27, op := _, type := _, pos := _, after := _, guard := _ }) rfl (fun K hK => ?_) AllReadyH.nil
    go_simp
    refine (toBoard_any a1 a2 _ _ c1 c2 xs ys _ rfl rfl l1 l2 (r1.below hb) (r2.below hb)).mono ?_
    rintro e w3 ⟨g1, g2, rfl, gg1, gg2, R1, R2, hb3⟩
    replace BV := BV.below hb3
    replace BB := BB.below hb3
    replace BS := BS.below hb3
    have hz3 := hb3.size
    replace hb := chain hb hb3
    clear hb3
    (try go_wp2_with fail)
    refine hK.out _ _ ⟨BV.four.1, BV.four.2.1, BV.four.2.2.1, BV.four.2.2.2.1, BB.two.1, BB.two.2.1, BS.two.1, BS.two.2.1⟩ (fun hHeld => ?_)
    clear hK K
    try simp only [Act.put, List.setIfInBounds_toArray, List.set_cons_zero, List.set_cons_succ]
    refine wpAnyH_ready (rs := [5]) (by kernel_rfl) (by simp) ?_
    refine AllReadyH.cons (o := { dst := some 29, op := _, type := _, pos := _, after := _, guard := _ }) rfl (fun K hK => ?_) AllReadyH.nil
    go_simp
    refine (toRoll_br ra rb _).mono ?_
    rintro e w4 ⟨rfl, hb4⟩
    replace BV := BV.below hb4
    replace BB := BB.below hb4
    replace BS := BS.below hb4
    replace R1 := R1.below hb4
    replace R2 := R2.below hb4
    have hz4 := hb4.size
    replace hb := chain hb hb4
    clear hb4
    (try go_wp2_with fail)
    refine hK.out _ _ ⟨BV.four.1, BV.four.2.1, BV.four.2.2.1, BV.four.2.2.2.1, BB.two.1, BB.two.2.1, BS.two.1, BS.two.2.1⟩ (fun hHeld => ?_)
    clear hK K
    try simp only [Act.put, List.setIfInBounds_toArray, List.set_cons_zero, List.set_cons_succ]
    refine wpAnyH_ready (rs := [6]) (by kernel_rfl) (by simp) ?_
    refine AllReadyH.cons (o := { dst := some 30, op := _, type := _, pos := _, after := _, guard := _ }) rfl (fun K hK => ?_) AllReadyH.nil
    go_simp
    refine (HSP.out _ _ _ _ _ _ _ rfl rfl l1 l2 R1.irow R2.irow).mono ?_
    rintro e w5 ⟨a0, k0, L0, rfl, hm0, O0, P0, hb5⟩
    replace BV := BV.below hb5
    replace BB := BB.below hb5
    replace BS := BS.below hb5
    replace R1 := R1.below hb5
    replace R2 := R2.below hb5
    have hz5 := hb5.size
    replace hb := chain hb hb5
    clear hb5
    have hl0 : L0.length ≤ 1000000 := by have q := congrArg List.length hm0; rw [List.length_map] at q; omega
    have HS0 := Lib.hid (show ∀ x ∈ L0, szP x ≤ 500 from fun x hx => (HPS.out x.2 (by rw [← hm0]; exact List.mem_map.2 ⟨x, hx, rfl⟩)).1)
    have HZ0 := Lib.hid (show ∀ x ∈ L0, 0 < x.2.2.1.length from fun x hx => (HPS.out x.2 (by rw [← hm0]; exact List.mem_map.2 ⟨x, hx, rfl⟩)).2)
    have HM0 := Lib.hid hm0
    clear hm0
    (try go_wp2_with fail)
    refine hK.out _ _ ⟨BV.four.1, BV.four.2.1, BV.four.2.2.1, BV.four.2.2.2.1, BB.two.1, BB.two.2.1, BS.two.1, BS.two.2.1⟩ (fun hHeld => ?_)
    clear hK K
    try simp only [Act.put, List.setIfInBounds_toArray, List.set_cons_zero, List.set_cons_succ]
    refine wpAnyH_take (i := 7) (oi := { dst := some 23, op := _, type := _, pos := _, after := _, guard := _ }) (v := ?_) rfl (by kernel_rfl) (by kernel_rfl) (by kernel_rfl) (fun _ _ _ h => h) (Or.inl ⟨by rfl, ?_⟩) (by assumption) ?_
    rotate_left
    · intro w hSw
      (try dsimp only at hSw)
      go_simp
      (try (with_reducible rfl))
    try simp only [Act.put, List.setIfInBounds_toArray, List.set_cons_zero, List.set_cons_succ]
    refine wpAnyH_take (i := 8) (oi := { dst := some 31, op := _, type := _, pos := _, after := _, guard := _ }) (v := ?_) rfl (by kernel_rfl) (by kernel_rfl) (by kernel_rfl) (fun _ _ _ h => h) (Or.inl ⟨by rfl, ?_⟩) (by assumption) ?_
    rotate_left
    · intro w hSw
      (try dsimp only at hSw)
      go_simp
      (try (with_reducible rfl))
    try simp only [Act.put, List.setIfInBounds_toArray, List.set_cons_zero, List.set_cons_succ]
    refine wpAnyH_take (i := 9) (oi := { dst := some 32, op := _, type := _, pos := _, after := _, guard := _ }) (v := ?_) rfl (by kernel_rfl) (by kernel_rfl) (by kernel_rfl) (fun _ _ _ h => h) (Or.inl ⟨by rfl, ?_⟩) (by assumption) ?_
    rotate_left
    · intro w hSw
      (try dsimp only at hSw)
      go_simp
      (try (with_reducible rfl))
    try simp only [Act.put, List.setIfInBounds_toArray, List.set_cons_zero, List.set_cons_succ]
    refine wpAnyH_take (i := 10) (oi := { dst := some 8, op := _, type := _, pos := _, after := _, guard := _ }) (v := ?_) rfl (by kernel_rfl) (by kernel_rfl) (by kernel_rfl) (fun _ _ _ h => h) (Or.inl ⟨by rfl, ?_⟩) (by assumption) ?_
    rotate_left
    · intro w hSw
      (try dsimp only at hSw)
      go_simp
      (try (with_reducible rfl))
    try simp only [Act.put, List.setIfInBounds_toArray, List.set_cons_zero, List.set_cons_succ]
    refine wpAnyH_take (i := 11) (oi := { dst := some 9, op := _, type := _, pos := _, after := _, guard := _ }) (v := ?_) rfl (by kernel_rfl) (by kernel_rfl) (by kernel_rfl) (fun _ _ _ h => h) (Or.inl ⟨by rfl, ?_⟩) (by assumption) ?_
    rotate_left
    · intro w hSw
      (try dsimp only at hSw)
      go_simp
      (try (with_reducible rfl))
    try simp only [Act.put, List.setIfInBounds_toArray, List.set_cons_zero, List.set_cons_succ]
    refine wpAnyH_done (by kernel_rfl) ?_ _
    clear hHeld
    clear R1 R2 gg1 gg2
    obtain ⟨q0_BV, q1_BV, q2_BV, q3_BV, qf_BV, ql_BV⟩ := BV.four
    obtain ⟨q0_BB, q1_BB, qf_BB, ql_BB⟩ := BB.two
    obtain ⟨q0_BS, q1_BS, qf_BS, ql_BS⟩ := BS.two
    go_wp2_with fail
    clear q0_BV q1_BV q2_BV q3_BV qf_BV ql_BV
    clear q0_BB q1_BB qf_BB ql_BB
    clear q0_BS q1_BS qf_BS ql_BS
    refine (toBoard_any a1 a2 _ _ c1 c2 xs ys _ rfl rfl l1 l2 (r1.below hb) (r2.below hb)).mono ?_
    rintro e w6 ⟨b1, b2, rfl, gb1, gb2, R1, R2, hb6⟩
    replace BV := BV.below hb6
    replace BB := BB.below hb6
    replace BS := BS.below hb6
    replace O0 := O0.below hb6
    replace P0 := P0.below hb6
    have hz6 := hb6.size
    replace hb := chain hb hb6
    clear hb6
    have OX : OBd w5.heap.size w6.heap.size w6 (some ⟨b1, 0, none⟩) (some ⟨b2, 0, none⟩) xs ys := .inr ⟨b1, b2, rfl, rfl, by omega, gb1, R1.lt, by omega, R2.lt, R1, R2⟩
    clear R1 R2 gb1 gb2
    have BX := Blk.new w6 #[.slice (some ⟨b1, 0, none⟩) xs.length xs.length, .slice (some ⟨b2, 0, none⟩) ys.length ys.length] 34
    have hal7 : Below w6.heap.size w6 (w6.alloc (.cells #[.slice (some ⟨b1, 0, none⟩) xs.length xs.length, .slice (some ⟨b2, 0, none⟩) ys.length ys.length] 34)) := (Below.refl _ _).alloc (Nat.le_refl _) _
    have hz7 : (w6.alloc (.cells #[.slice (some ⟨b1, 0, none⟩) xs.length xs.length, .slice (some ⟨b2, 0, none⟩) ys.length ys.length] 34)).heap.size = w6.heap.size + 1 := by simp
    replace BV := BV.below hal7
    replace BB := BB.below hal7
    replace BS := BS.below hal7
    replace O0 := O0.below hal7
    replace P0 := P0.below hal7
    replace OX := OX.below hal7
    replace hb := chain hb hal7
    clear hal7
    obtain ⟨q0_BV, q1_BV, q2_BV, q3_BV, qf_BV, ql_BV⟩ := BV.four
    obtain ⟨q0_BB, q1_BB, qf_BB, ql_BB⟩ := BB.two
    obtain ⟨q0_BS, q1_BS, qf_BS, ql_BS⟩ := BS.two
    obtain ⟨q0_BX, q1_BX, qf_BX, ql_BX⟩ := BX.two
    go_wp2_with fail
    clear q0_BV q1_BV q2_BV q3_BV qf_BV ql_BV
    clear q0_BB q1_BB qf_BB ql_BB
    clear q0_BS q1_BS qf_BS ql_BS
    clear q0_BX q1_BX qf_BX ql_BX
    generalize (w6.alloc (.cells #[.slice (some ⟨b1, 0, none⟩) xs.length xs.length, .slice (some ⟨b2, 0, none⟩) ys.length ys.length] 34)) = w7 at *
    obtain ⟨q0_BV, q1_BV, q2_BV, q3_BV, qf_BV, ql_BV⟩ := BV.four
    obtain ⟨q0_BB, q1_BB, qf_BB, ql_BB⟩ := BB.two
    obtain ⟨q0_BS, q1_BS, qf_BS, ql_BS⟩ := BS.two
    obtain ⟨q0_BX, q1_BX, qf_BX, ql_BX⟩ := BX.two
    go_wp2_with fail
    clear q0_BV q1_BV q2_BV q3_BV qf_BV ql_BV
    clear q0_BB q1_BB qf_BB ql_BB
    clear q0_BS q1_BS qf_BS ql_BS
    clear q0_BX q1_BX qf_BX ql_BX
    have hd8 : w7.drew.heap.size = w7.heap.size := rfl
    replace BV := BV.drew
    replace BB := BB.drew
    replace BS := BS.drew
    replace O0 := O0.drew
    replace P0 := P0.drew
    replace OX := OX.drew
    replace BX := BX.drew
    replace hb := hb.drew
    refine wp_region_held_drew (S := fun w' => w'.cell? ⟨w.heap.size, 0, none⟩ = some (.int .i64 p) ∧ w'.cell? ⟨w.heap.size, 1, none⟩ = some (.int .i64 c) ∧ w'.cell? ⟨w.heap.size, 2, none⟩ = some (.int .i64 h) ∧ w'.cell? ⟨w.heap.size, 3, none⟩ = some (.int .i64 s) ∧ w'.cell? ⟨(w.heap.size + 1), 0, none⟩ = some (.slice a1 xs.length c1) ∧ w'.cell? ⟨(w.heap.size + 1), 1, none⟩ = some (.slice a2 ys.length c2) ∧ w'.cell? ⟨(w.heap.size + 1 + 1), 0, none⟩ = some (.int .i64 ra) ∧ w'.cell? ⟨(w.heap.size + 1 + 1), 1, none⟩ = some (.int .i64 rb) ∧ w'.cell? ⟨w6.heap.size, 0, none⟩ = some (.slice (some ⟨b1, 0, none⟩) xs.length xs.length) ∧ w'.cell? ⟨w6.heap.size, 1, none⟩ = some (.slice (some ⟨b2, 0, none⟩) ys.length ys.length)) (by kernel_rfl) ⟨BV.four.1, BV.four.2.1, BV.four.2.2.1, BV.four.2.2.2.1, BB.two.1, BB.two.2.1, BS.two.1, BS.two.2.1, BX.two.1, BX.two.2.1⟩ (fun hHeld => ?_)
    clear hHeld
    generalize w7.drew = vd8 at *
    have hHeld : vd8.cell? ⟨w.heap.size, 0, none⟩ = some (.int .i64 p) ∧ vd8.cell? ⟨w.heap.size, 1, none⟩ = some (.int .i64 c) ∧ vd8.cell? ⟨w.heap.size, 2, none⟩ = some (.int .i64 h) ∧ vd8.cell? ⟨w.heap.size, 3, none⟩ = some (.int .i64 s) ∧ vd8.cell? ⟨(w.heap.size + 1), 0, none⟩ = some (.slice a1 xs.length c1) ∧ vd8.cell? ⟨(w.heap.size + 1), 1, none⟩ = some (.slice a2 ys.length c2) ∧ vd8.cell? ⟨(w.heap.size + 1 + 1), 0, none⟩ = some (.int .i64 ra) ∧ vd8.cell? ⟨(w.heap.size + 1 + 1), 1, none⟩ = some (.int .i64 rb) ∧ vd8.cell? ⟨w6.heap.size, 0, none⟩ = some (.slice (some ⟨b1, 0, none⟩) xs.length xs.length) ∧ vd8.cell? ⟨w6.heap.size, 1, none⟩ = some (.slice (some ⟨b2, 0, none⟩) ys.length ys.length) := ⟨BV.four.1, BV.four.2.1, BV.four.2.2.1, BV.four.2.2.2.1, BB.two.1, BB.two.2.1, BS.two.1, BS.two.2.1, BX.two.1, BX.two.2.1⟩
    refine wpAnyH_take (i := 0) (oi := { dst := some 36, op := _, type := _, pos := _, after := _, guard := _ }) (v := ?_) rfl (by kernel_rfl) (by kernel_rfl) (by kernel_rfl) (fun _ _ _ h => h) (Or.inl ⟨by rfl, ?_⟩) (by assumption) ?_
    rotate_left
    · intro w hSw
      (try dsimp only at hSw)
      go_simp
      (try (with_reducible rfl))
    try simp only [Act.put, List.setIfInBounds_toArray, List.set_cons_zero, List.set_cons_succ]
    refine wpAnyH_take (i := 2) (oi := { dst := some 38, op := _, type := _, pos := _, after := _, guard := _ }) (v := ?_) rfl (by kernel_rfl) (by kernel_rfl) (by kernel_rfl) (fun _ _ _ h => h) (Or.inl ⟨by rfl, ?_⟩) (by assumption) ?_
    rotate_left
    · intro w hSw
      (try dsimp only at hSw)
      go_simp
      (try (with_reducible rfl))
    try simp only [Act.put, List.setIfInBounds_toArray, List.set_cons_zero, List.set_cons_succ]
    refine wpAnyH_take (i := 3) (oi := { dst := some 39, op := _, type := _, pos := _, after := _, guard := _ }) (v := ?_) rfl (by kernel_rfl) (by kernel_rfl) (by kernel_rfl) (fun _ _ _ h => h) (Or.inl ⟨by rfl, ?_⟩) (by assumption) ?_
    rotate_left
    · intro w hSw
      (try dsimp only at hSw)
      go_simp
      (try (with_reducible rfl))
    try simp only [Act.put, List.setIfInBounds_toArray, List.set_cons_zero, List.set_cons_succ]
    refine wpAnyH_ready (rs := [1]) (by kernel_rfl) (by simp) ?_
    refine AllReadyH.cons (o := { dst := some 37, op := _, type := _, pos := _, after := _, guard := _ }) rfl (fun K hK => ?_) AllReadyH.nil
    go_simp
    refine (toVariant_any _ _ _ _ _).mono ?_
    rintro e w9 ⟨rfl, hb9⟩
    replace BV := BV.below hb9
    replace BB := BB.below hb9
    replace BS := BS.below hb9
    replace O0 := O0.below hb9
    replace P0 := P0.below hb9
    replace OX := OX.below hb9
    replace BX := BX.below hb9
    have hz9 := hb9.size
    replace hb := chain hb hb9
    clear hb9
    (try go_wp2_with fail)
    refine hK.out _ _ ⟨BV.four.1, BV.four.2.1, BV.four.2.2.1, BV.four.2.2.2.1, BB.two.1, BB.two.2.1, BS.two.1, BS.two.2.1, BX.two.1, BX.two.2.1⟩ (fun hHeld => ?_)
    clear hK K
    try simp only [Act.put, List.setIfInBounds_toArray, List.set_cons_zero, List.set_cons_succ]
    refine wpAnyH_ready (rs := [4]) (by kernel_rfl) (by simp) ?_
    refine AllReadyH.cons (o := { dst := some 40, op := _, type := _, pos := _, after := _, guard := _ }) rfl (fun K hK => ?_) AllReadyH.nil
    go_simp
    refine (toRoll_br ra rb _).mono ?_
    rintro e w10 ⟨rfl, hb10⟩
    replace BV := BV.below hb10
    replace BB := BB.below hb10
    replace BS := BS.below hb10
    replace O0 := O0.below hb10
    replace P0 := P0.below hb10
    replace OX := OX.below hb10
    replace BX := BX.below hb10
    have hz10 := hb10.size
    replace hb := chain hb hb10
    clear hb10
    (try go_wp2_with fail)
    refine hK.out _ _ ⟨BV.four.1, BV.four.2.1, BV.four.2.2.1, BV.four.2.2.2.1, BB.two.1, BB.two.2.1, BS.two.1, BS.two.2.1, BX.two.1, BX.two.2.1⟩ (fun hHeld => ?_)
    clear hK K
    try simp only [Act.put, List.setIfInBounds_toArray, List.set_cons_zero, List.set_cons_succ]
    refine wpAnyH_ready (rs := [5]) (by kernel_rfl) (by simp) ?_
    refine AllReadyH.cons (o := { dst := some 41, op := _, type := _, pos := _, after := _, guard := _ }) rfl (fun K hK => ?_) AllReadyH.nil
    go_simp
    refine (HIM.out _ _ _ _ _ _ _ rfl rfl l1 l2 OX.irow1 OX.irow2).mono ?_
    rintro e w11 ⟨a3, k3, L3, rfl, hm3, O1, P1, hd3, hb11⟩
    replace BV := BV.below hb11
    replace BB := BB.below hb11
    replace BS := BS.below hb11
    replace O0 := O0.below hb11
    replace P0 := P0.below hb11
    replace OX := OX.below hb11
    replace BX := BX.below hb11
    have hz11 := hb11.size
    replace hb := chain hb hb11
    clear hb11
    have hl3 : L3.length ≤ 1000000 := by have q := congrArg List.length hm3; rw [List.length_map] at q; omega
    have HS3 := Lib.hid (show ∀ x ∈ L3, szP x ≤ 500 from fun x hx => (HPS.out x.2 (by rw [← hm3]; exact List.mem_map.2 ⟨x, hx, rfl⟩)).1)
    have HZ3 := Lib.hid (show ∀ x ∈ L3, 0 < x.2.2.1.length from fun x hx => (HPS.out x.2 (by rw [← hm3]; exact List.mem_map.2 ⟨x, hx, rfl⟩)).2)
    have HM3 := Lib.hid hm3
    clear hm3
    have HD3 := Lib.hid hd3
    clear hd3
    (try go_wp2_with fail)
    refine hK.out _ _ ⟨BV.four.1, BV.four.2.1, BV.four.2.2.1, BV.four.2.2.2.1, BB.two.1, BB.two.2.1, BS.two.1, BS.two.2.1, BX.two.1, BX.two.2.1⟩ (fun hHeld => ?_)
    clear hK K
    try simp only [Act.put, List.setIfInBounds_toArray, List.set_cons_zero, List.set_cons_succ]
    refine wpAnyH_take (i := 6) (oi := { dst := some 35, op := _, type := _, pos := _, after := _, guard := _ }) (v := ?_) rfl (by kernel_rfl) (by kernel_rfl) (by kernel_rfl) (fun _ _ _ h => h) (Or.inl ⟨by rfl, ?_⟩) (by assumption) ?_
    rotate_left
    · intro w hSw
      (try dsimp only at hSw)
      go_simp
      (try (with_reducible rfl))
    try simp only [Act.put, List.setIfInBounds_toArray, List.set_cons_zero, List.set_cons_succ]
    refine wpAnyH_take (i := 7) (oi := { dst := some 42, op := _, type := _, pos := _, after := _, guard := _ }) (v := ?_) rfl (by kernel_rfl) (by kernel_rfl) (by kernel_rfl) (fun _ _ _ h => h) (Or.inl ⟨by rfl, ?_⟩) (by assumption) ?_
    rotate_left
    · intro w hSw
      (try dsimp only at hSw)
      go_simp
      (try (with_reducible rfl))
    try simp only [Act.put, List.setIfInBounds_toArray, List.set_cons_zero, List.set_cons_succ]
    refine wpAnyH_take (i := 8) (oi := { dst := some 43, op := _, type := _, pos := _, after := _, guard := _ }) (v := ?_) rfl (by kernel_rfl) (by kernel_rfl) (by kernel_rfl) (fun _ _ _ h => h) (Or.inl ⟨by rfl, ?_⟩) (by assumption) ?_
    rotate_left
    · intro w hSw
      (try dsimp only at hSw)
      go_simp
      (try (with_reducible rfl))
    try simp only [Act.put, List.setIfInBounds_toArray, List.set_cons_zero, List.set_cons_succ]
    refine wpAnyH_take (i := 9) (oi := { dst := some 11, op := _, type := _, pos := _, after := _, guard := _ }) (v := ?_) rfl (by kernel_rfl) (by kernel_rfl) (by kernel_rfl) (fun _ _ _ h => h) (Or.inl ⟨by rfl, ?_⟩) (by assumption) ?_
    rotate_left
    · intro w hSw
      (try dsimp only at hSw)
      go_simp
      (try (with_reducible rfl))
    try simp only [Act.put, List.setIfInBounds_toArray, List.set_cons_zero, List.set_cons_succ]
    refine wpAnyH_take (i := 10) (oi := { dst := some 12, op := _, type := _, pos := _, after := _, guard := _ }) (v := ?_) rfl (by kernel_rfl) (by kernel_rfl) (by kernel_rfl) (fun _ _ _ h => h) (Or.inl ⟨by rfl, ?_⟩) (by assumption) ?_
    rotate_left
    · intro w hSw
      (try dsimp only at hSw)
      go_simp
      (try (with_reducible rfl))
    try simp only [Act.put, List.setIfInBounds_toArray, List.set_cons_zero, List.set_cons_succ]
    refine wpAnyH_done (by kernel_rfl) ?_ _
    clear hHeld
    obtain ⟨q0_BV, q1_BV, q2_BV, q3_BV, qf_BV, ql_BV⟩ := BV.four
    obtain ⟨q0_BB, q1_BB, qf_BB, ql_BB⟩ := BB.two
    obtain ⟨q0_BS, q1_BS, qf_BS, ql_BS⟩ := BS.two
    obtain ⟨q0_BX, q1_BX, qf_BX, ql_BX⟩ := BX.two
    go_wp2_with fail
    clear q0_BV q1_BV q2_BV q3_BV qf_BV ql_BV
    clear q0_BB q1_BB qf_BB ql_BB
    clear q0_BS q1_BS qf_BS ql_BS
    clear q0_BX q1_BX qf_BX ql_BX
    refine (eqPlayS_same _ _ _ _ _ _ _ _ _ _ _ _ L3 L0 _ (by rw [HM3.out, HM0.out]) hl3 HS3.out O1 O0 P1 P0).mono ?_
    rintro e w12 ⟨rfl, hb12⟩
    replace BV := BV.below hb12
    replace BB := BB.below hb12
    replace BS := BS.below hb12
    replace O0 := O0.below hb12
    replace P0 := P0.below hb12
    replace OX := OX.below hb12
    replace BX := BX.below hb12
    replace O1 := O1.below hb12
    replace P1 := P1.below hb12
    have hz12 := hb12.size
    replace hb := chain hb hb12
    clear hb12
    obtain ⟨q0_BV, q1_BV, q2_BV, q3_BV, qf_BV, ql_BV⟩ := BV.four
    obtain ⟨q0_BB, q1_BB, qf_BB, ql_BB⟩ := BB.two
    obtain ⟨q0_BS, q1_BS, qf_BS, ql_BS⟩ := BS.two
    obtain ⟨q0_BX, q1_BX, qf_BX, ql_BX⟩ := BX.two
    go_wp2_with fail
    clear q0_BV q1_BV q2_BV q3_BV qf_BV ql_BV
    clear q0_BB q1_BB qf_BB ql_BB
    clear q0_BS q1_BS qf_BS ql_BS
    clear q0_BX q1_BX qf_BX ql_BX
    have hd13 : w12.drew.heap.size = w12.heap.size := rfl
    replace BV := BV.drew
    replace BB := BB.drew
    replace BS := BS.drew
    replace O0 := O0.drew
    replace P0 := P0.drew
    replace OX := OX.drew
    replace BX := BX.drew
    replace O1 := O1.drew
    replace P1 := P1.drew
    replace hb := hb.drew
    refine wp_region_held_drew (S := fun w' => w'.cell? ⟨w.heap.size, 0, none⟩ = some (.int .i64 p) ∧ w'.cell? ⟨w.heap.size, 1, none⟩ = some (.int .i64 c) ∧ w'.cell? ⟨w.heap.size, 2, none⟩ = some (.int .i64 h) ∧ w'.cell? ⟨w.heap.size, 3, none⟩ = some (.int .i64 s) ∧ w'.cell? ⟨(w.heap.size + 1), 0, none⟩ = some (.slice a1 xs.length c1) ∧ w'.cell? ⟨(w.heap.size + 1), 1, none⟩ = some (.slice a2 ys.length c2) ∧ w'.cell? ⟨(w.heap.size + 1 + 1), 0, none⟩ = some (.int .i64 ra) ∧ w'.cell? ⟨(w.heap.size + 1 + 1), 1, none⟩ = some (.int .i64 rb) ∧ w'.cell? ⟨w6.heap.size, 0, none⟩ = some (.slice (some ⟨b1, 0, none⟩) xs.length xs.length) ∧ w'.cell? ⟨w6.heap.size, 1, none⟩ = some (.slice (some ⟨b2, 0, none⟩) ys.length ys.length)) (by kernel_rfl) ⟨BV.four.1, BV.four.2.1, BV.four.2.2.1, BV.four.2.2.2.1, BB.two.1, BB.two.2.1, BS.two.1, BS.two.2.1, BX.two.1, BX.two.2.1⟩ (fun hHeld => ?_)
    clear hHeld
    generalize w12.drew = vd13 at *
    have hHeld : vd13.cell? ⟨w.heap.size, 0, none⟩ = some (.int .i64 p) ∧ vd13.cell? ⟨w.heap.size, 1, none⟩ = some (.int .i64 c) ∧ vd13.cell? ⟨w.heap.size, 2, none⟩ = some (.int .i64 h) ∧ vd13.cell? ⟨w.heap.size, 3, none⟩ = some (.int .i64 s) ∧ vd13.cell? ⟨(w.heap.size + 1), 0, none⟩ = some (.slice a1 xs.length c1) ∧ vd13.cell? ⟨(w.heap.size + 1), 1, none⟩ = some (.slice a2 ys.length c2) ∧ vd13.cell? ⟨(w.heap.size + 1 + 1), 0, none⟩ = some (.int .i64 ra) ∧ vd13.cell? ⟨(w.heap.size + 1 + 1), 1, none⟩ = some (.int .i64 rb) ∧ vd13.cell? ⟨w6.heap.size, 0, none⟩ = some (.slice (some ⟨b1, 0, none⟩) xs.length xs.length) ∧ vd13.cell? ⟨w6.heap.size, 1, none⟩ = some (.slice (some ⟨b2, 0, none⟩) ys.length ys.length) := ⟨BV.four.1, BV.four.2.1, BV.four.2.2.1, BV.four.2.2.2.1, BB.two.1, BB.two.2.1, BS.two.1, BS.two.2.1, BX.two.1, BX.two.2.1⟩
    refine wpAnyH_take (i := 0) (oi := { dst := some 53, op := _, type := _, pos := _, after := _, guard := _ }) (v := ?_) rfl (by kernel_rfl) (by kernel_rfl) (by kernel_rfl) (fun _ _ _ h => h) (Or.inl ⟨by rfl, ?_⟩) (by assumption) ?_
    rotate_left
    · intro w hSw
      (try dsimp only at hSw)
      go_simp
      (try (with_reducible rfl))
    try simp only [Act.put, List.setIfInBounds_toArray, List.set_cons_zero, List.set_cons_succ]
    refine wpAnyH_take (i := 1) (oi := { dst := some 54, op := _, type := _, pos := _, after := _, guard := _ }) (v := ?_) rfl (by kernel_rfl) (by kernel_rfl) (by kernel_rfl) (fun _ _ _ h => h) (Or.inl ⟨by rfl, ?_⟩) (by assumption) ?_
    rotate_left
    · intro w hSw
      (try dsimp only at hSw)
      go_simp
      (try (with_reducible rfl))
    try simp only [Act.put, List.setIfInBounds_toArray, List.set_cons_zero, List.set_cons_succ]
    refine wpAnyH_ready (rs := [2]) (by kernel_rfl) (by simp) ?_
    refine AllReadyH.cons (o := { dst := some 55, op := _, type := _, pos := _, after := _, guard := _ }) rfl (fun K hK => ?_) AllReadyH.nil
    go_simp
    refine (toBoard_any a1 a2 _ _ c1 c2 xs ys _ rfl rfl l1 l2 (r1.below hb) (r2.below hb)).mono ?_
    rintro e w14 ⟨g1, g2, rfl, gg1, gg2, R1, R2, hb14⟩
    replace BV := BV.below hb14
    replace BB := BB.below hb14
    replace BS := BS.below hb14
    replace O0 := O0.below hb14
    replace P0 := P0.below hb14
    replace OX := OX.below hb14
    replace BX := BX.below hb14
    replace O1 := O1.below hb14
    replace P1 := P1.below hb14
    have hz14 := hb14.size
    replace hb := chain hb hb14
    clear hb14
    (try go_wp2_with fail)
    refine hK.out _ _ ⟨BV.four.1, BV.four.2.1, BV.four.2.2.1, BV.four.2.2.2.1, BB.two.1, BB.two.2.1, BS.two.1, BS.two.2.1, BX.two.1, BX.two.2.1⟩ (fun hHeld => ?_)
    clear hK K
    try simp only [Act.put, List.setIfInBounds_toArray, List.set_cons_zero, List.set_cons_succ]
    refine wpAnyH_ready (rs := [3]) (by kernel_rfl) (by simp) ?_
    refine AllReadyH.cons (o := { dst := some 56, op := _, type := _, pos := _, after := _, guard := _ }) rfl (fun K hK => ?_) AllReadyH.nil
    go_simp
    refine (eqBoard_same _ _ _ _ _ _ _ _ _ _ xs ys _ rfl rfl l1 l2 OX.irow1 OX.irow2 R1.irow R2.irow).mono ?_
    rintro e w15 ⟨rfl, hb15⟩
    replace BV := BV.below hb15
    replace BB := BB.below hb15
    replace BS := BS.below hb15
    replace O0 := O0.below hb15
    replace P0 := P0.below hb15
    replace OX := OX.below hb15
    replace BX := BX.below hb15
    replace O1 := O1.below hb15
    replace P1 := P1.below hb15
    replace R1 := R1.below hb15
    replace R2 := R2.below hb15
    have hz15 := hb15.size
    replace hb := chain hb hb15
    clear hb15
    (try go_wp2_with fail)
    refine hK.out _ _ ⟨BV.four.1, BV.four.2.1, BV.four.2.2.1, BV.four.2.2.2.1, BB.two.1, BB.two.2.1, BS.two.1, BS.two.2.1, BX.two.1, BX.two.2.1⟩ (fun hHeld => ?_)
    clear hK K
    try simp only [Act.put, List.setIfInBounds_toArray, List.set_cons_zero, List.set_cons_succ]
    refine wpAnyH_take (i := 4) (oi := { dst := some 57, op := _, type := _, pos := _, after := _, guard := _ }) (v := ?_) rfl (by kernel_rfl) (by kernel_rfl) (by kernel_rfl) (fun _ _ _ h => h) (Or.inl ⟨by rfl, ?_⟩) (by assumption) ?_
    rotate_left
    · intro w hSw
      (try dsimp only at hSw)
      go_simp
      (try (with_reducible rfl))
    try simp only [Act.put, List.setIfInBounds_toArray, List.set_cons_zero, List.set_cons_succ]
    refine wpAnyH_done (by kernel_rfl) ?_ _
    clear hHeld
    clear R1 R2 gg1 gg2
    obtain ⟨q0_BV, q1_BV, q2_BV, q3_BV, qf_BV, ql_BV⟩ := BV.four
    obtain ⟨q0_BB, q1_BB, qf_BB, ql_BB⟩ := BB.two
    obtain ⟨q0_BS, q1_BS, qf_BS, ql_BS⟩ := BS.two
    obtain ⟨q0_BX, q1_BX, qf_BX, ql_BX⟩ := BX.two
    go_wp2_with fail
    clear q0_BV q1_BV q2_BV q3_BV qf_BV ql_BV
    clear q0_BB q1_BB qf_BB ql_BB
    clear q0_BS q1_BS qf_BS ql_BS
    clear q0_BX q1_BX qf_BX ql_BX
    refine (markBoard_own _ _ _ _ _ _ _ _ xs ys 1 _ rfl rfl l1 l2 (by omega) (by omega) OX).mono ?_
    rintro e w16 ⟨rfl, OX, hs16⟩
    replace BV := BV.same hs16 (by omega)
    replace BB := BB.same hs16 (by omega)
    replace BS := BS.same hs16 (by omega)
    replace O0 := O0.same hs16 (by omega)
    replace P0 := P0.same hs16 (by omega)
    replace BX := BX.same hs16 (by omega)
    replace O1 := O1.same hs16 (by omega)
    replace P1 := P1.same hs16 (by omega)
    have hz16 := hs16.size
    replace hb := below_same hb hs16 (by omega) (by omega)
    clear hs16
    have hk0 : ¬ ((1 : Int) + (xs.length : Int) + (ys.length : Int) < 0) := by omega
    have hq0 : ¬ ((1 : Int) + (szPs L3 : Int) < 0) := by omega
    clear OX
    obtain ⟨q0_BV, q1_BV, q2_BV, q3_BV, qf_BV, ql_BV⟩ := BV.four
    obtain ⟨q0_BB, q1_BB, qf_BB, ql_BB⟩ := BB.two
    obtain ⟨q0_BS, q1_BS, qf_BS, ql_BS⟩ := BS.two
    obtain ⟨q0_BX, q1_BX, qf_BX, ql_BX⟩ := BX.two
    go_wp2_with fail
    clear q0_BV q1_BV q2_BV q3_BV qf_BV ql_BV
    clear q0_BB q1_BB qf_BB ql_BB
    clear q0_BS q1_BS qf_BS ql_BS
    clear q0_BX q1_BX qf_BX ql_BX
    refine (eqPlayS_same _ _ _ _ _ _ _ _ _ _ _ _ L3 L0 _ (by rw [HM3.out, HM0.out]) hl3 HS3.out O1 O0 P1 P0).mono ?_
    rintro e w17 ⟨rfl, hb17⟩
    replace BV := BV.below hb17
    replace BB := BB.below hb17
    replace BS := BS.below hb17
    replace O0 := O0.below hb17
    replace P0 := P0.below hb17
    replace BX := BX.below hb17
    replace O1 := O1.below hb17
    replace P1 := P1.below hb17
    have hz17 := hb17.size
    replace hb := chain hb hb17
    clear hb17
    obtain ⟨q0_BV, q1_BV, q2_BV, q3_BV, qf_BV, ql_BV⟩ := BV.four
    obtain ⟨q0_BB, q1_BB, qf_BB, ql_BB⟩ := BB.two
    obtain ⟨q0_BS, q1_BS, qf_BS, ql_BS⟩ := BS.two
    obtain ⟨q0_BX, q1_BX, qf_BX, ql_BX⟩ := BX.two
    go_wp2_with fail
    clear q0_BV q1_BV q2_BV q3_BV qf_BV ql_BV
    clear q0_BB q1_BB qf_BB ql_BB
    clear q0_BS q1_BS qf_BS ql_BS
    clear q0_BX q1_BX qf_BX ql_BX
    refine (markPlayS_any _ _ _ _ _ _ L3 1 _ hl3 HS3.out HZ3.out (by omega) (by omega) O1 P1 HD3.out (by omega)).mono ?_
    rintro e w18 ⟨rfl, O1, P1, hs18⟩
    replace BV := BV.same hs18 (by omega)
    replace BB := BB.same hs18 (by omega)
    replace BS := BS.same hs18 (by omega)
    replace O0 := O0.same hs18 (by omega)
    replace P0 := P0.same hs18 (by omega)
    replace BX := BX.same hs18 (by omega)
    have hz18 := hs18.size
    replace hb := below_same hb hs18 (by omega) (by omega)
    clear hs18
    obtain ⟨q0_BV, q1_BV, q2_BV, q3_BV, qf_BV, ql_BV⟩ := BV.four
    obtain ⟨q0_BB, q1_BB, qf_BB, ql_BB⟩ := BB.two
    obtain ⟨q0_BS, q1_BS, qf_BS, ql_BS⟩ := BS.two
    obtain ⟨q0_BX, q1_BX, qf_BX, ql_BX⟩ := BX.two
    go_wp2_with fail
    clear q0_BV q1_BV q2_BV q3_BV qf_BV ql_BV
    clear q0_BB q1_BB qf_BB ql_BB
    clear q0_BS q1_BS qf_BS ql_BS
    clear q0_BX q1_BX qf_BX ql_BX
    refine (heldPlayS_any _ _ _ _ _ _ L3 1 _ hl3 HS3.out (by omega) (by omega) O1 P1).mono ?_
    rintro e w19 ⟨rfl, hb19⟩
    replace BV := BV.below hb19
    replace BB := BB.below hb19
    replace BS := BS.below hb19
    replace O0 := O0.below hb19
    replace P0 := P0.below hb19
    replace BX := BX.below hb19
    replace O1 := O1.below hb19
    replace P1 := P1.below hb19
    have hz19 := hb19.size
    replace hb := chain hb hb19
    clear hb19
    obtain ⟨q0_BV, q1_BV, q2_BV, q3_BV, qf_BV, ql_BV⟩ := BV.four
    obtain ⟨q0_BB, q1_BB, qf_BB, ql_BB⟩ := BB.two
    obtain ⟨q0_BS, q1_BS, qf_BS, ql_BS⟩ := BS.two
    obtain ⟨q0_BX, q1_BX, qf_BX, ql_BX⟩ := BX.two
    go_wp2_with fail
    clear q0_BV q1_BV q2_BV q3_BV qf_BV ql_BV
    clear q0_BB q1_BB qf_BB ql_BB
    clear q0_BS q1_BS qf_BS ql_BS
    clear q0_BX q1_BX qf_BX ql_BX
    have hd20 : w19.drew.heap.size = w19.heap.size := rfl
    replace BV := BV.drew
    replace BB := BB.drew
    replace BS := BS.drew
    replace O0 := O0.drew
    replace P0 := P0.drew
    replace BX := BX.drew
    replace O1 := O1.drew
    replace P1 := P1.drew
    replace hb := hb.drew
    refine wp_region_held_drew (S := fun w' => w'.cell? ⟨w.heap.size, 0, none⟩ = some (.int .i64 p) ∧ w'.cell? ⟨w.heap.size, 1, none⟩ = some (.int .i64 c) ∧ w'.cell? ⟨w.heap.size, 2, none⟩ = some (.int .i64 h) ∧ w'.cell? ⟨w.heap.size, 3, none⟩ = some (.int .i64 s) ∧ w'.cell? ⟨(w.heap.size + 1), 0, none⟩ = some (.slice a1 xs.length c1) ∧ w'.cell? ⟨(w.heap.size + 1), 1, none⟩ = some (.slice a2 ys.length c2) ∧ w'.cell? ⟨(w.heap.size + 1 + 1), 0, none⟩ = some (.int .i64 ra) ∧ w'.cell? ⟨(w.heap.size + 1 + 1), 1, none⟩ = some (.int .i64 rb) ∧ w'.cell? ⟨w6.heap.size, 0, none⟩ = some (.slice (some ⟨b1, 0, none⟩) xs.length xs.length) ∧ w'.cell? ⟨w6.heap.size, 1, none⟩ = some (.slice (some ⟨b2, 0, none⟩) ys.length ys.length)) (by kernel_rfl) ⟨BV.four.1, BV.four.2.1, BV.four.2.2.1, BV.four.2.2.2.1, BB.two.1, BB.two.2.1, BS.two.1, BS.two.2.1, BX.two.1, BX.two.2.1⟩ (fun hHeld => ?_)
    clear hHeld
    generalize w19.drew = vd20 at *
    have hHeld : vd20.cell? ⟨w.heap.size, 0, none⟩ = some (.int .i64 p) ∧ vd20.cell? ⟨w.heap.size, 1, none⟩ = some (.int .i64 c) ∧ vd20.cell? ⟨w.heap.size, 2, none⟩ = some (.int .i64 h) ∧ vd20.cell? ⟨w.heap.size, 3, none⟩ = some (.int .i64 s) ∧ vd20.cell? ⟨(w.heap.size + 1), 0, none⟩ = some (.slice a1 xs.length c1) ∧ vd20.cell? ⟨(w.heap.size + 1), 1, none⟩ = some (.slice a2 ys.length c2) ∧ vd20.cell? ⟨(w.heap.size + 1 + 1), 0, none⟩ = some (.int .i64 ra) ∧ vd20.cell? ⟨(w.heap.size + 1 + 1), 1, none⟩ = some (.int .i64 rb) ∧ vd20.cell? ⟨w6.heap.size, 0, none⟩ = some (.slice (some ⟨b1, 0, none⟩) xs.length xs.length) ∧ vd20.cell? ⟨w6.heap.size, 1, none⟩ = some (.slice (some ⟨b2, 0, none⟩) ys.length ys.length) := ⟨BV.four.1, BV.four.2.1, BV.four.2.2.1, BV.four.2.2.2.1, BB.two.1, BB.two.2.1, BS.two.1, BS.two.2.1, BX.two.1, BX.two.2.1⟩
    refine wpAnyH_take (i := 0) (oi := { dst := some 86, op := _, type := _, pos := _, after := _, guard := _ }) (v := ?_) rfl (by kernel_rfl) (by kernel_rfl) (by kernel_rfl) (fun _ _ _ h => h) (Or.inl ⟨by rfl, ?_⟩) (by assumption) ?_
    rotate_left
    · intro w hSw
      (try dsimp only at hSw)
      go_simp
      (try (with_reducible rfl))
    try simp only [Act.put, List.setIfInBounds_toArray, List.set_cons_zero, List.set_cons_succ]
    refine wpAnyH_take (i := 2) (oi := { dst := some 88, op := _, type := _, pos := _, after := _, guard := _ }) (v := ?_) rfl (by kernel_rfl) (by kernel_rfl) (by kernel_rfl) (fun _ _ _ h => h) (Or.inl ⟨by rfl, ?_⟩) (by assumption) ?_
    rotate_left
    · intro w hSw
      (try dsimp only at hSw)
      go_simp
      (try (with_reducible rfl))
    try simp only [Act.put, List.setIfInBounds_toArray, List.set_cons_zero, List.set_cons_succ]
    refine wpAnyH_take (i := 4) (oi := { dst := some 90, op := _, type := _, pos := _, after := _, guard := _ }) (v := ?_) rfl (by kernel_rfl) (by kernel_rfl) (by kernel_rfl) (fun _ _ _ h => h) (Or.inl ⟨by rfl, ?_⟩) (by assumption) ?_
    rotate_left
    · intro w hSw
      (try dsimp only at hSw)
      go_simp
      (try (with_reducible rfl))
    try simp only [Act.put, List.setIfInBounds_toArray, List.set_cons_zero, List.set_cons_succ]
    refine wpAnyH_ready (rs := [1]) (by kernel_rfl) (by simp) ?_
    refine AllReadyH.cons (o := { dst := some 87, op := _, type := _, pos := _, after := _, guard := _ }) rfl (fun K hK => ?_) AllReadyH.nil
    go_simp
    refine (toVariant_any _ _ _ _ _).mono ?_
    rintro e w21 ⟨rfl, hb21⟩
    replace BV := BV.below hb21
    replace BB := BB.below hb21
    replace BS := BS.below hb21
    replace O0 := O0.below hb21
    replace P0 := P0.below hb21
    replace BX := BX.below hb21
    replace O1 := O1.below hb21
    replace P1 := P1.below hb21
    have hz21 := hb21.size
    replace hb := chain hb hb21
    clear hb21
    (try go_wp2_with fail)
    refine hK.out _ _ ⟨BV.four.1, BV.four.2.1, BV.four.2.2.1, BV.four.2.2.2.1, BB.two.1, BB.two.2.1, BS.two.1, BS.two.2.1, BX.two.1, BX.two.2.1⟩ (fun hHeld => ?_)
    clear hK K
    try simp only [Act.put, List.setIfInBounds_toArray, List.set_cons_zero, List.set_cons_succ]
    refine wpAnyH_ready (rs := [3]) (by kernel_rfl) (by simp) ?_
    refine AllReadyH.cons (o := { dst := some 89, op := _, type := _, pos := _, after := _, guard := _ }) rfl (fun K hK => ?_) AllReadyH.nil
    go_simp
    refine (toBoard_any a1 a2 _ _ c1 c2 xs ys _ rfl rfl l1 l2 (r1.below hb) (r2.below hb)).mono ?_
    rintro e w22 ⟨g1, g2, rfl, gg1, gg2, R1, R2, hb22⟩
    replace BV := BV.below hb22
    replace BB := BB.below hb22
    replace BS := BS.below hb22
    replace O0 := O0.below hb22
    replace P0 := P0.below hb22
    replace BX := BX.below hb22
    replace O1 := O1.below hb22
    replace P1 := P1.below hb22
    have hz22 := hb22.size
    replace hb := chain hb hb22
    clear hb22
    (try go_wp2_with fail)
    refine hK.out _ _ ⟨BV.four.1, BV.four.2.1, BV.four.2.2.1, BV.four.2.2.2.1, BB.two.1, BB.two.2.1, BS.two.1, BS.two.2.1, BX.two.1, BX.two.2.1⟩ (fun hHeld => ?_)
    clear hK K
    try simp only [Act.put, List.setIfInBounds_toArray, List.set_cons_zero, List.set_cons_succ]
    refine wpAnyH_ready (rs := [5]) (by kernel_rfl) (by simp) ?_
    refine AllReadyH.cons (o := { dst := some 91, op := _, type := _, pos := _, after := _, guard := _ }) rfl (fun K hK => ?_) AllReadyH.nil
    go_simp
    refine (toRoll_br ra rb _).mono ?_
    rintro e w23 ⟨rfl, hb23⟩
    replace BV := BV.below hb23
    replace BB := BB.below hb23
    replace BS := BS.below hb23
    replace O0 := O0.below hb23
    replace P0 := P0.below hb23
    replace BX := BX.below hb23
    replace O1 := O1.below hb23
    replace P1 := P1.below hb23
    replace R1 := R1.below hb23
    replace R2 := R2.below hb23
    have hz23 := hb23.size
    replace hb := chain hb hb23
    clear hb23
    (try go_wp2_with fail)
    refine hK.out _ _ ⟨BV.four.1, BV.four.2.1, BV.four.2.2.1, BV.four.2.2.2.1, BB.two.1, BB.two.2.1, BS.two.1, BS.two.2.1, BX.two.1, BX.two.2.1⟩ (fun hHeld => ?_)
    clear hK K
    try simp only [Act.put, List.setIfInBounds_toArray, List.set_cons_zero, List.set_cons_succ]
    refine wpAnyH_ready (rs := [6]) (by kernel_rfl) (by simp) ?_
    refine AllReadyH.cons (o := { dst := some 92, op := _, type := _, pos := _, after := _, guard := _ }) rfl (fun K hK => ?_) AllReadyH.nil
    go_simp
    refine (HIM.out _ _ _ _ _ _ _ rfl rfl l1 l2 R1.irow R2.irow).mono ?_
    rintro e w24 ⟨a4, k4, L4, rfl, hm4, O2, P2, hd4, hb24⟩
    replace BV := BV.below hb24
    replace BB := BB.below hb24
    replace BS := BS.below hb24
    replace O0 := O0.below hb24
    replace P0 := P0.below hb24
    replace BX := BX.below hb24
    replace O1 := O1.below hb24
    replace P1 := P1.below hb24
    replace R1 := R1.below hb24
    replace R2 := R2.below hb24
    have hz24 := hb24.size
    replace hb := chain hb hb24
    clear hb24
    have hl4 : L4.length ≤ 1000000 := by have q := congrArg List.length hm4; rw [List.length_map] at q; omega
    have HS4 := Lib.hid (show ∀ x ∈ L4, szP x ≤ 500 from fun x hx => (HPS.out x.2 (by rw [← hm4]; exact List.mem_map.2 ⟨x, hx, rfl⟩)).1)
    have HZ4 := Lib.hid (show ∀ x ∈ L4, 0 < x.2.2.1.length from fun x hx => (HPS.out x.2 (by rw [← hm4]; exact List.mem_map.2 ⟨x, hx, rfl⟩)).2)
    have HM4 := Lib.hid hm4
    clear hm4
    (try go_wp2_with fail)
    refine hK.out _ _ ⟨BV.four.1, BV.four.2.1, BV.four.2.2.1, BV.four.2.2.2.1, BB.two.1, BB.two.2.1, BS.two.1, BS.two.2.1, BX.two.1, BX.two.2.1⟩ (fun hHeld => ?_)
    clear hK K
    try simp only [Act.put, List.setIfInBounds_toArray, List.set_cons_zero, List.set_cons_succ]
    refine wpAnyH_take (i := 7) (oi := { dst := some 85, op := _, type := _, pos := _, after := _, guard := _ }) (v := ?_) rfl (by kernel_rfl) (by kernel_rfl) (by kernel_rfl) (fun _ _ _ h => h) (Or.inl ⟨by rfl, ?_⟩) (by assumption) ?_
    rotate_left
    · intro w hSw
      (try dsimp only at hSw)
      go_simp
      (try (with_reducible rfl))
    try simp only [Act.put, List.setIfInBounds_toArray, List.set_cons_zero, List.set_cons_succ]
    refine wpAnyH_take (i := 8) (oi := { dst := some 93, op := _, type := _, pos := _, after := _, guard := _ }) (v := ?_) rfl (by kernel_rfl) (by kernel_rfl) (by kernel_rfl) (fun _ _ _ h => h) (Or.inl ⟨by rfl, ?_⟩) (by assumption) ?_
    rotate_left
    · intro w hSw
      (try dsimp only at hSw)
      go_simp
      (try (with_reducible rfl))
    try simp only [Act.put, List.setIfInBounds_toArray, List.set_cons_zero, List.set_cons_succ]
    refine wpAnyH_take (i := 9) (oi := { dst := some 94, op := _, type := _, pos := _, after := _, guard := _ }) (v := ?_) rfl (by kernel_rfl) (by kernel_rfl) (by kernel_rfl) (fun _ _ _ h => h) (Or.inl ⟨by rfl, ?_⟩) (by assumption) ?_
    rotate_left
    · intro w hSw
      (try dsimp only at hSw)
      go_simp
      (try (with_reducible rfl))
    try simp only [Act.put, List.setIfInBounds_toArray, List.set_cons_zero, List.set_cons_succ]
    refine wpAnyH_take (i := 10) (oi := { dst := some 16, op := _, type := _, pos := _, after := _, guard := _ }) (v := ?_) rfl (by kernel_rfl) (by kernel_rfl) (by kernel_rfl) (fun _ _ _ h => h) (Or.inl ⟨by rfl, ?_⟩) (by assumption) ?_
    rotate_left
    · intro w hSw
      (try dsimp only at hSw)
      go_simp
      (try (with_reducible rfl))
    try simp only [Act.put, List.setIfInBounds_toArray, List.set_cons_zero, List.set_cons_succ]
    refine wpAnyH_take (i := 11) (oi := { dst := some 17, op := _, type := _, pos := _, after := _, guard := _ }) (v := ?_) rfl (by kernel_rfl) (by kernel_rfl) (by kernel_rfl) (fun _ _ _ h => h) (Or.inl ⟨by rfl, ?_⟩) (by assumption) ?_
    rotate_left
    · intro w hSw
      (try dsimp only at hSw)
      go_simp
      (try (with_reducible rfl))
    try simp only [Act.put, List.setIfInBounds_toArray, List.set_cons_zero, List.set_cons_succ]
    refine wpAnyH_done (by kernel_rfl) ?_ _
    clear hHeld
    obtain ⟨q0_BV, q1_BV, q2_BV, q3_BV, qf_BV, ql_BV⟩ := BV.four
    obtain ⟨q0_BB, q1_BB, qf_BB, ql_BB⟩ := BB.two
    obtain ⟨q0_BS, q1_BS, qf_BS, ql_BS⟩ := BS.two
    obtain ⟨q0_BX, q1_BX, qf_BX, ql_BX⟩ := BX.two
    go_wp2_with fail
    clear q0_BV q1_BV q2_BV q3_BV qf_BV ql_BV
    clear q0_BB q1_BB qf_BB ql_BB
    clear q0_BS q1_BS qf_BS ql_BS
    clear q0_BX q1_BX qf_BX ql_BX
    refine (eqPlayS_same _ _ _ _ _ _ _ _ _ _ _ _ L4 L0 _ (by rw [HM4.out, HM0.out]) hl4 HS4.out O2 O0 P2 P0).mono ?_
    rintro e w25 ⟨rfl, hb25⟩
    replace BV := BV.below hb25
    replace BB := BB.below hb25
    replace BS := BS.below hb25
    replace O0 := O0.below hb25
    replace P0 := P0.below hb25
    replace BX := BX.below hb25
    replace O1 := O1.below hb25
    replace P1 := P1.below hb25
    replace R1 := R1.below hb25
    replace R2 := R2.below hb25
    replace O2 := O2.below hb25
    replace P2 := P2.below hb25
    have hz25 := hb25.size
    replace hb := chain hb hb25
    clear hb25
    obtain ⟨q0_BV, q1_BV, q2_BV, q3_BV, qf_BV, ql_BV⟩ := BV.four
    obtain ⟨q0_BB, q1_BB, qf_BB, ql_BB⟩ := BB.two
    obtain ⟨q0_BS, q1_BS, qf_BS, ql_BS⟩ := BS.two
    obtain ⟨q0_BX, q1_BX, qf_BX, ql_BX⟩ := BX.two
    go_wp2_with fail
    clear q0_BV q1_BV q2_BV q3_BV qf_BV ql_BV
    clear q0_BB q1_BB qf_BB ql_BB
    clear q0_BS q1_BS qf_BS ql_BS
    clear q0_BX q1_BX qf_BX ql_BX
    refine (heldPlayS_any _ _ _ _ _ _ L3 1 _ hl3 HS3.out (by omega) (by omega) O1 P1).mono ?_
    rintro e w26 ⟨rfl, hb26⟩
    replace BV := BV.below hb26
    replace BB := BB.below hb26
    replace BS := BS.below hb26
    replace O0 := O0.below hb26
    replace P0 := P0.below hb26
    replace BX := BX.below hb26
    replace O1 := O1.below hb26
    replace P1 := P1.below hb26
    replace R1 := R1.below hb26
    replace R2 := R2.below hb26
    replace O2 := O2.below hb26
    replace P2 := P2.below hb26
    have hz26 := hb26.size
    replace hb := chain hb hb26
    clear hb26
    obtain ⟨q0_BV, q1_BV, q2_BV, q3_BV, qf_BV, ql_BV⟩ := BV.four
    obtain ⟨q0_BB, q1_BB, qf_BB, ql_BB⟩ := BB.two
    obtain ⟨q0_BS, q1_BS, qf_BS, ql_BS⟩ := BS.two
    obtain ⟨q0_BX, q1_BX, qf_BX, ql_BX⟩ := BX.two
    go_wp2_with fail
    go_ret
    exact ⟨rfl, hb⟩
set_option maxRecDepth 100000 in
theorem fnExactAllPlays_lifted (os : Os) (started : os.Started) (H : Type) (enc : TypeId × Value → H) :
    ReturnsInHanded {} Try.checked os 4 .any (Rows.fnExactAllPlaysSpec.pre6 enc Try.prog Try.f4 Rows.fnExactAllPlaysRow.domain false) (Rows.fnExactAllPlaysSpec.post enc Try.prog Try.f4 false true false false) := by
  refine returnsInHanded_of_change (C := Try.checked) own started (by kernel_rfl) Try.func4
    (ChangeSpec.witness6 (enc := enc) (C := Try.checked) false ⟨#[], #[.agg #[.int .i64 0, .int .i64 0, .int .i64 0, .int .i64 0], .agg #[.slice none 0 0, .slice none 0 0], .agg #[.int .i64 0, .int .i64 0]], []⟩ 8 (by kernel_rfl) (by kernel_rfl) (by kernel_rfl) (by kernel_rfl)) ?_
  intro W base args ds gs before hval0 hW hcnd _
  have hval : ∀ (j : Nat) t v, Try.f4.params[j]? = some t → args[j]? = some v → Value.okWide Try.prog W .any base t v := hval0
  have hW' := hW
  obtain ⟨p, q, hA0, hV, rfl, hfz, hnd⟩ := hW
  have hA : DataW.TrodAll enc Try.prog W 0 (fun _ => true) true Try.f4.params.toList args.toList ds p := hA0
  rw [Try.params4] at hA hval
  obtain ⟨v0, vs0, d0, ds0, p0, q0, hargs, rfl, rfl, h0, r0⟩ := trodAll_cons hA
  obtain ⟨v1, vs1, d1, ds1, p1, q1, rfl, rfl, rfl, h1, r1⟩ := trodAll_cons r0
  obtain ⟨v2, vs2, d2, ds2, p2, q2, rfl, rfl, rfl, h2, r2⟩ := trodAll_cons r1
  obtain ⟨rfl, rfl, rfl⟩ := trodAll_nil r2
  obtain rfl : args = #[v0, v1, v2] := by cases args; simp_all
  obtain ⟨rfl, rfl⟩ := trodVars_none hV
  have k0 := h0
  have lt0 : ∀ x ∈ p0, x.block < W.heap.size := by obtain ⟨m, hm⟩ := k0; exact DataW.trod_lt m _ _ _ hm
  have k1 := h1
  have lt1 : ∀ x ∈ p1, x.block < W.heap.size := by obtain ⟨m, hm⟩ := k1; exact DataW.trod_lt m _ _ _ hm
  have k2 := h2
  have lt2 : ∀ x ∈ p2, x.block < W.heap.size := by obtain ⟨m, hm⟩ := k2; exact DataW.trod_lt m _ _ _ hm
  obtain ⟨x0_0, x1_0, x2_0, x3_0, y0_0, y1_0, y2_0, y3_0, m_0, rfl, _, _, hy0_0, hy1_0, hy2_0, hy3_0⟩ := Joins.open_agg4 Try.underlying23 (by kernel_rfl) (show Try.prog.cellsOf 23 = 4 by kernel_rfl) (hval 0 23 v0 rfl rfl) h0
  obtain ⟨a0_0, e0_0, _, wa0_0⟩ := DataW.trod_int Try.underlying2 hy0_0
  obtain ⟨a1_0, e1_0, _, wa1_0⟩ := DataW.trod_int Try.underlying2 hy1_0
  obtain ⟨a2_0, e2_0, _, wa2_0⟩ := DataW.trod_int Try.underlying2 hy2_0
  obtain ⟨a3_0, e3_0, _, wa3_0⟩ := DataW.trod_int Try.underlying2 hy3_0
  simp at e0_0 e1_0 e2_0 e3_0
  subst e0_0 e1_0 e2_0 e3_0
  obtain ⟨x0_1, x1_1, y0_1, y1_1, m_1, rfl, _, _, hy0_1, hy1_1⟩ := Joins.open_agg2 Try.underlying26 (by kernel_rfl) (show Try.prog.cellsOf 26 = 2 by kernel_rfl) (hval 1 26 v1 rfl rfl) h1
  obtain ⟨ra_1, rn_1, rc_1, rx_1, rfl, rl_1, rm_1, rr_1, rw_1⟩ := open_row hy0_1
  obtain ⟨sa_1, sn_1, sc_1, sx_1, rfl, sl_1, sm_1, sr_1, sw_1⟩ := open_row hy1_1
  obtain ⟨x0_2, x1_2, y0_2, y1_2, m_2, rfl, _, _, hy0_2, hy1_2⟩ := Joins.open_agg2 Try.underlying28 (by kernel_rfl) (show Try.prog.cellsOf 28 = 2 by kernel_rfl) (hval 2 28 v2 rfl rfl) h2
  obtain ⟨a0_2, e0_2, _, wa0_2⟩ := DataW.trod_int Try.underlying2 hy0_2
  obtain ⟨a1_2, e1_2, _, wa1_2⟩ := DataW.trod_int Try.underlying2 hy1_2
  simp at e0_2 e1_2
  subst e0_2 e1_2
  clear hA0 hval0
  refine (fnExactAllPlays_walk a0_0 a1_0 a2_0 a3_0 ra_1 sa_1 rn_1 sn_1 rc_1 sc_1 rx_1 sx_1 a0_2 a1_2 W rl_1 sl_1 rm_1 sm_1 rr_1 sr_1).mono fun e W' ⟨he, bel⟩ => ?_
  subst he
  exact ⟨_, rfl, _, _, _, [], _, [], hW', trodAll_mk1 (shut_bool Try.underlying4 _), (trodAll_cons_mk (Below.trod laidOut (by kernel_rfl) (of_decide_eq_true (by kernel_rfl)) k0 bel lt0) (trodAll_cons_mk (Below.trod laidOut (by kernel_rfl) (of_decide_eq_true (by kernel_rfl)) k1 bel lt1) (trodAll_cons_mk (Below.trod laidOut (by kernel_rfl) (of_decide_eq_true (by kernel_rfl)) k2 bel lt2) trodAll_mk0))), rfl, bel.frame _, fun h => by cases h⟩
theorem fnExactAllPlays_holds : Rows.FnExactAllPlaysSaid :=
  OpenClaim.holds_of_wide 4 Try.f4 rfl rfl rfl rfl rfl rfl rfl ⟨rfl, rfl, rfl, rfl, rfl⟩ rfl rfl rfl rfl rfl (by kernel_rfl) Try.func4 (by kernel_rfl)
    (of_decide_eq_true (by kernel_rfl)) (by unfold Func.isWrapper; first | (rw [if_pos (by decide +kernel)]; kernel_rfl) | (rw [if_neg (by decide +kernel)]; exact ⟨rfl, rfl⟩))
    (fun os started H enc _ => fnExactAllPlays_lifted os started H enc)
end Go.Proofs.Ytokjkcnjmfbfiaa
