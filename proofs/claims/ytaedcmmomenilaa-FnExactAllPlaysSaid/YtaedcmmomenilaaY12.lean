/- Texts of a proof, laid together: Contract of the model's comparison of boards. Contracts of the model's comparison of boards and of its search for a board. -/
import Derived.Test.YtaedcmmomenilaaY01
import Derived.BigQuiet
import Derived.Test.YtaedcmmomenilaaY11
namespace Go.Proofs.Ytaedcmmomenilaa
open Go.ChangeShapes Go.WideShapes Go.ChangeAt Go.RowKit
set_option linter.unusedVariables false
set_option linter.unusedSimpArgs false

set_option maxRecDepth 8000 in
set_option maxHeartbeats 1000000 in
theorem l05Same_any (a1 a2 b1 b2 : Option Addr) (n1 n2 m1 m2 c1 c2 d1 d2 : Nat) (xs ys us vs : List Int) (w : World) (h1 : xs.length = n1) (h2 : ys.length = n2) (h3 : us.length = m1) (h4 : vs.length = m2) (l1 : n1 ≤ 1048576) (l2 : n2 ≤ 1048576) (l3 : m1 ≤ 1048576) (l4 : m2 ≤ 1048576)
    (r1 : IRow w a1 xs) (r2 : IRow w a2 ys) (s1 : IRow w b1 us) (s2 : IRow w b2 vs) :
    Calls Try.prog 81 #[.agg #[.slice a1 n1 c1, .slice a2 n2 c2], .agg #[.slice b1 m1 d1, .slice b2 m2 d2]] w fun e w' => e = .returned (.bool (decide (xs = us ∧ ys = vs))) ∧ Below w.heap.size w w' := by
  obtain ⟨Q, hQ⟩ : ∃ Q, decide (xs = us ∧ ys = vs) = Q := ⟨_, rfl⟩
  rw [hQ]
  have HQ := Lib.hid hQ
  clear hQ
  obtain ⟨BA, BB, hb, hz⟩ := two_new w #[.slice a1 n1 c1, .slice a2 n2 c2] #[.slice b1 m1 d1, .slice b2 m2 d2] 34 34
  clear hz
  obtain ⟨x0, x1, xf, xl⟩ := BA.two
  obtain ⟨y0, y1, yf, yl⟩ := BB.two
  by_cases e1 : m1 = n1
  · subst e1
    by_cases e2 : m2 = n2
    · subst e2
      go_enter Try.func81, Try.ntmps81
      go_wp2_with fail
      replace r1 := r1.below hb
      replace r2 := r2.below hb
      replace s1 := s1.below hb
      replace s2 := s2.below hb
      clear x0 x1 xf xl y0 y1 yf yl
      generalize ((w.alloc (.cells #[.slice a1 m1 c1, .slice a2 m2 c2] 34)).alloc (.cells #[.slice b1 m1 d1, .slice b2 m2 d2] 34)) = v0 at *
      go_loopg [5] m1 (fun m i wr => ∃ k : Nat, k ≤ m1 ∧ m = m1 - k ∧ i = .int .i64 k ∧ (∀ j, j < k → xs.getD j 0 = us.getD j 0) ∧ Below v0.heap.size v0 wr)
      case atStart => exact ⟨0, by omega, by omega, rfl, fun j hj => by omega, Below.refl _ _⟩
      case round =>
        obtain ⟨k, hk, hm, rfl, hsm, hbel⟩ := hrel
        obtain ⟨x0, x1, xf, xl⟩ := (BA.below hbel).two
        obtain ⟨y0, y1, yf, yl⟩ := (BB.below hbel).two
        by_cases hlt : k < m1
        · have hlt' : (k : Int) < (m1 : Int) := by omega
          have hk0 : (0 : Int) ≤ (k : Int) := by omega
          obtain ⟨p1, o1, rfl, hc1⟩ := (r1.below hbel) k (by omega)
          obtain ⟨p2, o2, rfl, hc2⟩ := (s1.below hbel) k (by omega)
          obtain ⟨v1, hv1⟩ : ∃ v, xs.getD k 0 = v := ⟨_, rfl⟩
          obtain ⟨v2, hv2⟩ : ∃ v, us.getD k 0 = v := ⟨_, rfl⟩
          rw [hv1] at hc1
          rw [hv2] at hc2
          by_cases e : v1 = v2
          · subst e
            have HSM := Lib.hid hsm
            have HV1 := Lib.hid hv1
            have HV2 := Lib.hid hv2
            clear hsm hv1 hv2
            go_wp2_with fail
            go_quiet (fail)
            go_wp2
            go_roundg (m1 - (k + 1))
            case measure => omega
            case rel => exact ⟨k + 1, by omega, rfl, by go_num, fun j hj => by
              by_cases h : j = k
              · subst h; exact HV1.out.trans HV2.out.symm
              · exact HSM.out j (by omega), below_drewN hbel _⟩
          · have fe : (v1 != v2) = true := by rw [bne_iff_ne]; exact e
            have fe2 : (v1 == v2) = false := by rw [beq_eq_false_iff_ne]; exact e
            have hQ : Q = false := by
              rw [← HQ.out, decide_eq_false_iff_not]
              rintro ⟨rfl, rfl⟩
              exact e (hv1.symm.trans hv2)
            subst hQ
            clear hsm hv1 hv2
            go_wp2_with fail
            go_quiet (fail)
            go_wp2
            go_ret
            exact ⟨rfl, chain hb (below_drewN hbel _)⟩
        · obtain rfl : k = m1 := by omega
          have heq : xs = us := ext_getD (by omega) (fun j => by
            by_cases hj : j < xs.length
            · exact hsm j (by omega)
            · rw [getD_out (by omega), getD_out (by omega)])
          clear hsm
          have HEQ := Lib.hid heq
          clear heq
          go_wp2_with fail
          go_loopg [6] m2 (fun m i wr => ∃ k : Nat, k ≤ m2 ∧ m = m2 - k ∧ i = .int .i64 k ∧ (∀ j, j < k → ys.getD j 0 = vs.getD j 0) ∧ Below v0.heap.size v0 wr)
          case atStart => exact ⟨0, by omega, by omega, rfl, fun j hj => by omega, hbel⟩
          case round =>
            obtain ⟨k, hk, hm, rfl, hsm, hbel⟩ := hrel
            obtain ⟨x0, x1, xf, xl⟩ := (BA.below hbel).two
            obtain ⟨y0, y1, yf, yl⟩ := (BB.below hbel).two
            by_cases hlt : k < m2
            · have hlt' : (k : Int) < (m2 : Int) := by omega
              have hk0 : (0 : Int) ≤ (k : Int) := by omega
              obtain ⟨p1, o1, rfl, hc1⟩ := (r2.below hbel) k (by omega)
              obtain ⟨p2, o2, rfl, hc2⟩ := (s2.below hbel) k (by omega)
              obtain ⟨v1, hv1⟩ : ∃ v, ys.getD k 0 = v := ⟨_, rfl⟩
              obtain ⟨v2, hv2⟩ : ∃ v, vs.getD k 0 = v := ⟨_, rfl⟩
              rw [hv1] at hc1
              rw [hv2] at hc2
              by_cases e : v1 = v2
              · subst e
                have HSM := Lib.hid hsm
                have HV1 := Lib.hid hv1
                have HV2 := Lib.hid hv2
                clear hsm hv1 hv2
                go_wp2_with fail
                go_quiet (fail)
                go_wp2
                go_roundg (m2 - (k + 1))
                case measure => omega
                case rel => exact ⟨k + 1, by omega, rfl, by go_num, fun j hj => by
                  by_cases h : j = k
                  · subst h; exact HV1.out.trans HV2.out.symm
                  · exact HSM.out j (by omega), below_drewN hbel _⟩
              · have fe : (v1 != v2) = true := by rw [bne_iff_ne]; exact e
                have fe2 : (v1 == v2) = false := by rw [beq_eq_false_iff_ne]; exact e
                have hQ : Q = false := by
                  rw [← HQ.out, decide_eq_false_iff_not]
                  rintro ⟨rfl, rfl⟩
                  exact e (hv1.symm.trans hv2)
                subst hQ
                clear hsm hv1 hv2
                go_wp2_with fail
                go_quiet (fail)
                go_wp2
                go_ret
                exact ⟨rfl, chain hb (below_drewN hbel _)⟩
            · obtain rfl : k = m2 := by omega
              have heq : ys = vs := ext_getD (by omega) (fun j => by
                by_cases hj : j < ys.length
                · exact hsm j (by omega)
                · rw [getD_out (by omega), getD_out (by omega)])
              clear hsm
              have hQ : Q = true := by
                rw [← HQ.out, decide_eq_true_eq]
                exact ⟨HEQ.out, heq⟩
              subst hQ
              clear heq
              go_wp2
              go_ret
              exact ⟨rfl, chain hb hbel⟩
    · have hQ : Q = false := by
        rw [← HQ.out, decide_eq_false_iff_not]
        rintro ⟨rfl, rfl⟩
        omega
      subst hQ
      have f1 : ((n2 : Int) != (m2 : Int)) = true := by rw [bne_iff_ne]; omega
      have f2 : ((n2 : Int) == (m2 : Int)) = false := by rw [beq_eq_false_iff_ne]; omega
      go_enter Try.func81, Try.ntmps81
      go_wp2
      go_ret
      exact ⟨rfl, hb⟩
  · have hQ : Q = false := by
      rw [← HQ.out, decide_eq_false_iff_not]
      rintro ⟨rfl, rfl⟩
      omega
    subst hQ
    have f1 : ((n1 : Int) != (m1 : Int)) = true := by rw [bne_iff_ne]; omega
    have f2 : ((n1 : Int) == (m1 : Int)) = false := by rw [beq_eq_false_iff_ne]; omega
    go_enter Try.func81, Try.ntmps81
    go_wp2
    go_ret
    exact ⟨rfl, hb⟩
end Go.Proofs.Ytaedcmmomenilaa
namespace Go.Proofs.Ytaedcmmomenilaa
open Go.ChangeShapes Go.WideShapes Go.ChangeAt Go.RowKit
set_option linter.unusedVariables false
set_option linter.unusedSimpArgs false

set_option maxRecDepth 8000 in
set_option maxHeartbeats 1000000 in
theorem l05Find_any (lo hi : Nat) (a : Option Addr) (n cap : Nat) (l : List PP) (b1 b2 : Option Addr) (m1 m2 k1 k2 : Nat) (us vs : List Int) (w : World) (hn : l.length = n) (hle : n ≤ 1048576) (hP : OPl lo hi w a l) (hA : PAll lo hi w l)
    (hx : ∀ x ∈ l, x.2.2.1.length ≤ 1048576 ∧ x.2.2.2.length ≤ 1048576) (h1 : us.length = m1) (h2 : vs.length = m2) (l1 : m1 ≤ 1048576) (l2 : m2 ≤ 1048576) (s1 : IRow w b1 us) (s2 : IRow w b2 vs) :
    Calls Try.prog 51 #[.slice a n cap, .agg #[.slice b1 m1 k1, .slice b2 m2 k2]] w fun e w' => e = .returned (.int .i64 (findP (us, vs) (l.map Prod.snd) 0)) ∧ Below w.heap.size w w' := by
  subst hn
  obtain ⟨Q, hQ⟩ : ∃ Q, findP (us, vs) (l.map Prod.snd) 0 = Q := ⟨_, rfl⟩
  rw [hQ]
  have HQ := Lib.hid hQ
  clear hQ
  have BB := Blk.new w #[.slice b1 m1 k1, .slice b2 m2 k2] 34
  have hb : Below w.heap.size w (w.alloc (.cells #[.slice b1 m1 k1, .slice b2 m2 k2] 34)) := (Below.refl _ _).alloc (Nat.le_refl _) _
  replace hP := hP.below hb
  replace hA := hA.below hb
  replace s1 := s1.below hb
  replace s2 := s2.below hb
  have HX := Lib.hid hx
  clear hx
  go_enter Try.func51, Try.ntmps51
  go_wp2_with fail
  generalize (w.alloc (.cells #[.slice b1 m1 k1, .slice b2 m2 k2] 34)) = v0 at *
  go_loopg [5] l.length (fun m i wr => ∃ k : Nat, k ≤ l.length ∧ m = l.length - k ∧ i = .int .i64 k ∧ findP (us, vs) ((l.drop k).map Prod.snd) k = Q ∧ Below v0.heap.size v0 wr)
  case atStart => exact ⟨0, by omega, by omega, rfl, by simpa using HQ.out, Below.refl _ _⟩
  case round =>
    obtain ⟨k, hk, hm, rfl, hf, hbel⟩ := hrel
    by_cases hlt : k < l.length
    · have hlt' : (k : Int) < (l.length : Int) := by omega
      have hk0 : (0 : Int) ≤ (k : Int) := by omega
      obtain ⟨x, hx⟩ : ∃ x, l[k]? = some x := ⟨_, List.getElem?_eq_getElem hlt⟩
      obtain ⟨g, rfl, R⟩ := (hP.below hbel).row hlt
      obtain ⟨-, u1, u2⟩ := R.three k x hx
      have hmem := List.mem_of_getElem? hx
      have hD := ((hA.below hbel) x hmem).2
      have hlen := HX.out x hmem
      rw [show l.drop k = x :: l.drop (k + 1) by rw [List.drop_eq_getElem_cons hlt]; congr 1; rw [List.getElem?_eq_getElem hlt] at hx; simpa using hx, List.map_cons, findP] at hf
      have hs := fun W (hW : Below wr.heap.size wr W) => l05Same_any x.1.b1 x.1.b2 b1 b2 x.2.2.1.length x.2.2.2.length m1 m2 x.1.k1 x.1.k2 k1 k2 x.2.2.1 x.2.2.2 us vs W rfl rfl h1 h2 hlen.1 hlen.2 l1 l2 (hD.below hW).irow1 (hD.below hW).irow2 (s1.below (chain hbel hW)) (s2.below (chain hbel hW))
      obtain ⟨q1, q2, qf, ql⟩ := (BB.below hbel).two
      obtain ⟨⟨sa, sc, e1, f1, e2, f2⟩, st, X, Y⟩ := x
      dsimp only at u1 u2 hs hf
      by_cases e : X = us ∧ Y = vs
      · rw [decide_eq_true e] at hs
        rw [if_pos (by obtain ⟨rfl, rfl⟩ := e; rfl)] at hf
        have HS := Lib.hid hs
        subst hf
        clear hs hx R hmem hD hlen e
        go_wp2_with fail
        refine wp_region_held_drew (S := fun w' => w'.cell? ⟨g, k * 3 + 1, none⟩ = some (.slice e1 X.length f1) ∧ w'.cell? ⟨g, k * 3 + 2, none⟩ = some (.slice e2 Y.length f2) ∧ w'.cell? ⟨w.heap.size, 0, none⟩ = some (.slice b1 m1 k1) ∧ w'.cell? ⟨w.heap.size, 1, none⟩ = some (.slice b2 m2 k2) ∧ Below wr.heap.size wr w') (by kernel_rfl) ⟨u1, u2, q1, q2, (Below.refl _ _).drew⟩ (fun hHeld => ?_)
        refine wpAnyH_take (i := 0) (oi := { dst := some 12, op := _, type := _, pos := _, after := _, guard := _ }) (v := ?_) rfl (by kernel_rfl) (by kernel_rfl) (by kernel_rfl) (fun _ _ _ h => h) (Or.inl ⟨by rfl, ?_⟩) (by assumption) ?_
        rotate_left
        · intro w hSw
          (try dsimp only at hSw)
          go_simp
          (try (with_reducible rfl))
        try simp only [Act.put, List.setIfInBounds_toArray, List.set_cons_zero, List.set_cons_succ]
        refine wpAnyH_take (i := 1) (oi := { dst := some 13, op := _, type := _, pos := _, after := _, guard := _ }) (v := ?_) rfl (by kernel_rfl) (by kernel_rfl) (by kernel_rfl) (fun _ _ _ h => h) (Or.inl ⟨by rfl, ?_⟩) (by assumption) ?_
        rotate_left
        · intro w hSw
          (try dsimp only at hSw)
          go_simp
          (try (with_reducible rfl))
        try simp only [Act.put, List.setIfInBounds_toArray, List.set_cons_zero, List.set_cons_succ]
        refine wpAnyH_take (i := 2) (oi := { dst := some 14, op := _, type := _, pos := _, after := _, guard := _ }) (v := ?_) rfl (by kernel_rfl) (by kernel_rfl) (by kernel_rfl) (fun _ _ _ h => h) (Or.inl ⟨by rfl, ?_⟩) (by assumption) ?_
        rotate_left
        · intro w hSw
          (try dsimp only at hSw)
          go_simp
          (try (with_reducible rfl))
        try simp only [Act.put, List.setIfInBounds_toArray, List.set_cons_zero, List.set_cons_succ]
        refine wpAnyH_take (i := 3) (oi := { dst := some 15, op := _, type := _, pos := _, after := _, guard := _ }) (v := ?_) rfl (by kernel_rfl) (by kernel_rfl) (by kernel_rfl) (fun _ _ _ h => h) (Or.inl ⟨by rfl, ?_⟩) (by assumption) ?_
        rotate_left
        · intro w hSw
          (try dsimp only at hSw)
          go_simp
          (try (with_reducible rfl))
        try simp only [Act.put, List.setIfInBounds_toArray, List.set_cons_zero, List.set_cons_succ]
        refine wpAnyH_take (i := 4) (oi := { dst := some 16, op := _, type := _, pos := _, after := _, guard := _ }) (v := ?_) rfl (by kernel_rfl) (by kernel_rfl) (by kernel_rfl) (fun _ _ _ h => h) (Or.inl ⟨by rfl, ?_⟩) (by assumption) ?_
        rotate_left
        · intro w hSw
          (try dsimp only at hSw)
          go_simp
          (try (with_reducible rfl))
        try simp only [Act.put, List.setIfInBounds_toArray, List.set_cons_zero, List.set_cons_succ]
        refine wpAnyH_take (i := 5) (oi := { dst := some 17, op := _, type := _, pos := _, after := _, guard := _ }) (v := ?_) rfl (by kernel_rfl) (by kernel_rfl) (by kernel_rfl) (fun _ _ _ h => h) (Or.inl ⟨by rfl, ?_⟩) (by assumption) ?_
        rotate_left
        · intro w hSw
          (try dsimp only at hSw)
          go_simp
          (try (with_reducible rfl))
        try simp only [Act.put, List.setIfInBounds_toArray, List.set_cons_zero, List.set_cons_succ]
        refine wpAnyH_ready (rs := [6]) (by kernel_rfl) (by simp) ?_
        refine AllReadyH.cons (o := { dst := some 18, op := _, type := _, pos := _, after := _, guard := _ }) rfl (fun K hK => ?_) AllReadyH.nil
        go_simp
        refine (HS.out _ hHeld.2.2.2.2).mono ?_
        rintro e w5 ⟨rfl, hb5⟩
        (try go_wp2_with fail)
        refine hK.out _ _ ⟨CellIs.below hHeld.1 hb5, CellIs.below hHeld.2.1 hb5, CellIs.below hHeld.2.2.1 hb5, CellIs.below hHeld.2.2.2.1 hb5, chain hHeld.2.2.2.2 hb5⟩ (fun hHeld => ?_)
        clear hK K
        try simp only [Act.put, List.setIfInBounds_toArray, List.set_cons_zero, List.set_cons_succ]
        refine wpAnyH_done (by kernel_rfl) ?_ _
        go_wp2
        go_ret
        exact ⟨rfl, chain hb (chain hbel hHeld.2.2.2.2)⟩
      · rw [decide_eq_false e] at hs
        rw [if_neg (by intro h; injection h with h1 h2; exact e ⟨h1, h2⟩)] at hf
        have HS := Lib.hid hs
        have HF := Lib.hid hf
        clear hs hx R hmem hD hlen e hf
        go_wp2_with fail
        refine wp_region_held_drew (S := fun w' => w'.cell? ⟨g, k * 3 + 1, none⟩ = some (.slice e1 X.length f1) ∧ w'.cell? ⟨g, k * 3 + 2, none⟩ = some (.slice e2 Y.length f2) ∧ w'.cell? ⟨w.heap.size, 0, none⟩ = some (.slice b1 m1 k1) ∧ w'.cell? ⟨w.heap.size, 1, none⟩ = some (.slice b2 m2 k2) ∧ Below wr.heap.size wr w') (by kernel_rfl) ⟨u1, u2, q1, q2, (Below.refl _ _).drew⟩ (fun hHeld => ?_)
        refine wpAnyH_take (i := 0) (oi := { dst := some 12, op := _, type := _, pos := _, after := _, guard := _ }) (v := ?_) rfl (by kernel_rfl) (by kernel_rfl) (by kernel_rfl) (fun _ _ _ h => h) (Or.inl ⟨by rfl, ?_⟩) (by assumption) ?_
        rotate_left
        · intro w hSw
          (try dsimp only at hSw)
          go_simp
          (try (with_reducible rfl))
        try simp only [Act.put, List.setIfInBounds_toArray, List.set_cons_zero, List.set_cons_succ]
        refine wpAnyH_take (i := 1) (oi := { dst := some 13, op := _, type := _, pos := _, after := _, guard := _ }) (v := ?_) rfl (by kernel_rfl) (by kernel_rfl) (by kernel_rfl) (fun _ _ _ h => h) (Or.inl ⟨by rfl, ?_⟩) (by assumption) ?_
        rotate_left
        · intro w hSw
          (try dsimp only at hSw)
          go_simp
          (try (with_reducible rfl))
        try simp only [Act.put, List.setIfInBounds_toArray, List.set_cons_zero, List.set_cons_succ]
        refine wpAnyH_take (i := 2) (oi := { dst := some 14, op := _, type := _, pos := _, after := _, guard := _ }) (v := ?_) rfl (by kernel_rfl) (by kernel_rfl) (by kernel_rfl) (fun _ _ _ h => h) (Or.inl ⟨by rfl, ?_⟩) (by assumption) ?_
        rotate_left
        · intro w hSw
          (try dsimp only at hSw)
          go_simp
          (try (with_reducible rfl))
        try simp only [Act.put, List.setIfInBounds_toArray, List.set_cons_zero, List.set_cons_succ]
        refine wpAnyH_take (i := 3) (oi := { dst := some 15, op := _, type := _, pos := _, after := _, guard := _ }) (v := ?_) rfl (by kernel_rfl) (by kernel_rfl) (by kernel_rfl) (fun _ _ _ h => h) (Or.inl ⟨by rfl, ?_⟩) (by assumption) ?_
        rotate_left
        · intro w hSw
          (try dsimp only at hSw)
          go_simp
          (try (with_reducible rfl))
        try simp only [Act.put, List.setIfInBounds_toArray, List.set_cons_zero, List.set_cons_succ]
        refine wpAnyH_take (i := 4) (oi := { dst := some 16, op := _, type := _, pos := _, after := _, guard := _ }) (v := ?_) rfl (by kernel_rfl) (by kernel_rfl) (by kernel_rfl) (fun _ _ _ h => h) (Or.inl ⟨by rfl, ?_⟩) (by assumption) ?_
        rotate_left
        · intro w hSw
          (try dsimp only at hSw)
          go_simp
          (try (with_reducible rfl))
        try simp only [Act.put, List.setIfInBounds_toArray, List.set_cons_zero, List.set_cons_succ]
        refine wpAnyH_take (i := 5) (oi := { dst := some 17, op := _, type := _, pos := _, after := _, guard := _ }) (v := ?_) rfl (by kernel_rfl) (by kernel_rfl) (by kernel_rfl) (fun _ _ _ h => h) (Or.inl ⟨by rfl, ?_⟩) (by assumption) ?_
        rotate_left
        · intro w hSw
          (try dsimp only at hSw)
          go_simp
          (try (with_reducible rfl))
        try simp only [Act.put, List.setIfInBounds_toArray, List.set_cons_zero, List.set_cons_succ]
        refine wpAnyH_ready (rs := [6]) (by kernel_rfl) (by simp) ?_
        refine AllReadyH.cons (o := { dst := some 18, op := _, type := _, pos := _, after := _, guard := _ }) rfl (fun K hK => ?_) AllReadyH.nil
        go_simp
        refine (HS.out _ hHeld.2.2.2.2).mono ?_
        rintro e w5 ⟨rfl, hb5⟩
        (try go_wp2_with fail)
        refine hK.out _ _ ⟨CellIs.below hHeld.1 hb5, CellIs.below hHeld.2.1 hb5, CellIs.below hHeld.2.2.1 hb5, CellIs.below hHeld.2.2.2.1 hb5, chain hHeld.2.2.2.2 hb5⟩ (fun hHeld => ?_)
        clear hK K
        try simp only [Act.put, List.setIfInBounds_toArray, List.set_cons_zero, List.set_cons_succ]
        refine wpAnyH_done (by kernel_rfl) ?_ _
        go_wp2
        go_roundg (l.length - (k + 1))
        case measure => omega
        case rel => exact ⟨k + 1, by omega, rfl, by go_num, HF.out, chain hbel hHeld.2.2.2.2⟩
    · obtain rfl : k = l.length := by omega
      rw [List.drop_length, List.map_nil, findP] at hf
      subst hf
      go_wp2
      go_ret
      exact ⟨rfl, chain hb hbel⟩
end Go.Proofs.Ytaedcmmomenilaa
