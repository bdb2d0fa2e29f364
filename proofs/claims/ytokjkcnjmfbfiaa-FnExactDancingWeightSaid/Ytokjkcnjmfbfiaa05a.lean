/- Contracts of the model's comparison of boards and of its search for a board. -/
import Derived.Test.Ytokjkcnjmfbfiaa05a0
import Derived.Test.YtokjkcnjmfbfiaaPlyM
import Derived.BigQuiet
namespace Go.Proofs.Ytokjkcnjmfbfiaa
open Go.ChangeShapes Go.WideShapes Go.ChangeAt Go.RowKit
set_option linter.unusedVariables false
set_option linter.unusedSimpArgs false
set_option maxRecDepth 4000

set_option maxRecDepth 8000 in
set_option maxHeartbeats 1000000 in
theorem l05Find_any (lo hi : Nat) (a : Option Addr) (n cap : Nat) (l : List PP) (b1 b2 : Option Addr) (m1 m2 k1 k2 : Nat) (us vs : List Int) (w : World) (hn : l.length = n) (hle : n ≤ 1048576) (hP : OPl lo hi w a l) (hA : PAll lo hi w l)
    (hx : ∀ x ∈ l, x.2.2.1.length ≤ 1048576 ∧ x.2.2.2.length ≤ 1048576) (h1 : us.length = m1) (h2 : vs.length = m2) (l1 : m1 ≤ 1048576) (l2 : m2 ≤ 1048576) (s1 : IRow w b1 us) (s2 : IRow w b2 vs) :
    Calls Try.prog 72 #[.slice a n cap, .agg #[.slice b1 m1 k1, .slice b2 m2 k2]] w fun e w' => e = .returned (.int .i64 (findP (us, vs) (l.map Prod.snd) 0)) ∧ Below w.heap.size w w' := by
  subst hn
  obtain ⟨Q, hQ⟩ : ∃ Q, findP (us, vs) (l.map Prod.snd) 0 = Q := ⟨_, rfl⟩
  rw [hQ]
  have HQ := Lib.hid hQ
  clear hQ
  have BB := Blk.new w #[.slice b1 m1 k1, .slice b2 m2 k2] 34
  have hb : Below w.heap.size w (w.alloc (.cells #[.slice b1 m1 k1, .slice b2 m2 k2] 34)) := (Below.refl _ _).alloc (Nat.le_refl _) _
  replace hP := hP.below hb
  replace hA := hA.below hb
  replace s1 := s1.below hb
  replace s2 := s2.below hb
  have HX := Lib.hid hx
  clear hx
  go_enter Try.func72, Try.ntmps72
  go_wp2_with fail
  generalize (w.alloc (.cells #[.slice b1 m1 k1, .slice b2 m2 k2] 34)) = v0 at *
  go_loopg [5] l.length (fun m i wr => ∃ k : Nat, k ≤ l.length ∧ m = l.length - k ∧ i = .int .i64 k ∧ findP (us, vs) ((l.drop k).map Prod.snd) k = Q ∧ Below v0.heap.size v0 wr)
  case atStart => exact ⟨0, by omega, by omega, rfl, by simpa using HQ.out, Below.refl _ _⟩
  case round =>
    obtain ⟨k, hk, hm, rfl, hf, hbel⟩ := hrel
    by_cases hlt : k < l.length
    · have hlt' : (k : Int) < (l.length : Int) := by omega
      have hk0 : (0 : Int) ≤ (k : Int) := by omega
      obtain ⟨x, hx⟩ : ∃ x, l[k]? = some x := ⟨_, List.getElem?_eq_getElem hlt⟩
      obtain ⟨g, rfl, R⟩ := (hP.below hbel).row hlt
      obtain ⟨-, u1, u2⟩ := R.three k x hx
      have hmem := List.mem_of_getElem? hx
      have hD := ((hA.below hbel) x hmem).2
      have hlen := HX.out x hmem
      rw [show l.drop k = x :: l.drop (k + 1) by rw [List.drop_eq_getElem_cons hlt]; congr 1; rw [List.getElem?_eq_getElem hlt] at hx; simpa using hx, List.map_cons, findP] at hf
      have hs := fun W (hW : Below wr.heap.size wr W) => l05Same_any x.1.b1 x.1.b2 b1 b2 x.2.2.1.length x.2.2.2.length m1 m2 x.1.k1 x.1.k2 k1 k2 x.2.2.1 x.2.2.2 us vs W rfl rfl h1 h2 hlen.1 hlen.2 l1 l2 (hD.below hW).irow1 (hD.below hW).irow2 (s1.below (chain hbel hW)) (s2.below (chain hbel hW))
      obtain ⟨q1, q2, qf, ql⟩ := (BB.below hbel).two
      obtain ⟨⟨sa, sc, e1, f1, e2, f2⟩, st, X, Y⟩ := x
      dsimp only at u1 u2 hs hf
      by_cases e : X = us ∧ Y = vs
      · rw [decide_eq_true e] at hs
        rw [if_pos (by obtain ⟨rfl, rfl⟩ := e; rfl)] at hf
        have HS := Lib.hid hs
        subst hf
        clear hs hx R hmem hD hlen e
        go_wp2_with fail
        refine wp_region_held_drew (S := fun w' => w'.cell? ⟨g, k * 3 + 1, none⟩ = some (.slice e1 X.length f1) ∧ w'.cell? ⟨g, k * 3 + 2, none⟩ = some (.slice e2 Y.length f2) ∧ w'.cell? ⟨w.heap.size, 0, none⟩ = some (.slice b1 m1 k1) ∧ w'.cell? ⟨w.heap.size, 1, none⟩ = some (.slice b2 m2 k2) ∧ Below wr.heap.size wr w') (by kernel_rfl) ⟨u1, u2, q1, q2, (Below.refl _ _).drew⟩ (fun hHeld => ?_)
        refine wpAnyH_take (i := 0) (oi := { dst := some 12, op := _, type := _, pos := _, after := _, guard := _ }) (v := ?_) rfl (by kernel_rfl) (by kernel_rfl) (by kernel_rfl) (fun _ _ _ h => h) (Or.inl ⟨by rfl, ?_⟩) (by assumption) ?_
        rotate_left
        · intro w hSw
          (try dsimp only at hSw)
          go_simp
          (try (with_reducible rfl))
        try simp only [Act.put, List.setIfInBounds_toArray, List.set_cons_zero, List.set_cons_succ]
        refine wpAnyH_take (i := 1) (oi := { dst := some 13, op := _, type := _, pos := _, after := _, guard := _ }) (v := ?_) rfl (by kernel_rfl) (by kernel_rfl) (by kernel_rfl) (fun _ _ _ h => h) (Or.inl ⟨by rfl, ?_⟩) (by assumption) ?_
        rotate_left
        · intro w hSw
          (try dsimp only at hSw)
          go_simp
          (try (with_reducible rfl))
        try simp only [Act.put, List.setIfInBounds_toArray, List.set_cons_zero, List.set_cons_succ]
        refine wpAnyH_take (i := 2) (oi := { dst := some 14, op := _, type := _, pos := _, after := _, guard := _ }) (v := ?_) rfl (by kernel_rfl) (by kernel_rfl) (by kernel_rfl) (fun _ _ _ h => h) (Or.inl ⟨by rfl, ?_⟩) (by assumption) ?_
        rotate_left
        · intro w hSw
          (try dsimp only at hSw)
          go_simp
          (try (with_reducible rfl))
        try simp only [Act.put, List.setIfInBounds_toArray, List.set_cons_zero, List.set_cons_succ]
        refine wpAnyH_take (i := 3) (oi := { dst := some 15, op := _, type := _, pos := _, after := _, guard := _ }) (v := ?_) rfl (by kernel_rfl) (by kernel_rfl) (by kernel_rfl) (fun _ _ _ h => h) (Or.inl ⟨by rfl, ?_⟩) (by assumption) ?_
        rotate_left
        · intro w hSw
          (try dsimp only at hSw)
          go_simp
          (try (with_reducible rfl))
        try simp only [Act.put, List.setIfInBounds_toArray, List.set_cons_zero, List.set_cons_succ]
        refine wpAnyH_take (i := 4) (oi := { dst := some 16, op := _, type := _, pos := _, after := _, guard := _ }) (v := ?_) rfl (by kernel_rfl) (by kernel_rfl) (by kernel_rfl) (fun _ _ _ h => h) (Or.inl ⟨by rfl, ?_⟩) (by assumption) ?_
        rotate_left
        · intro w hSw
          (try dsimp only at hSw)
          go_simp
          (try (with_reducible rfl))
        try simp only [Act.put, List.setIfInBounds_toArray, List.set_cons_zero, List.set_cons_succ]
        refine wpAnyH_take (i := 5) (oi := { dst := some 17, op := _, type := _, pos := _, after := _, guard := _ }) (v := ?_) rfl (by kernel_rfl) (by kernel_rfl) (by kernel_rfl) (fun _ _ _ h => h) (Or.inl ⟨by rfl, ?_⟩) (by assumption) ?_
        rotate_left
        · intro w hSw
          (try dsimp only at hSw)
          go_simp
          (try (with_reducible rfl))
        try simp only [Act.put, List.setIfInBounds_toArray, List.set_cons_zero, List.set_cons_succ]
        refine wpAnyH_ready (rs := [6]) (by kernel_rfl) (by simp) ?_
        refine AllReadyH.cons (o := { dst := some 18, op := _, type := _, pos := _, after := _, guard := _ }) rfl (fun K hK => ?_) AllReadyH.nil
        go_simp
        refine (HS.out _ hHeld.2.2.2.2).mono ?_
        rintro e w5 ⟨rfl, hb5⟩
        (try go_wp2_with fail)
        refine hK.out _ _ ⟨CellIs.below hHeld.1 hb5, CellIs.below hHeld.2.1 hb5, CellIs.below hHeld.2.2.1 hb5, CellIs.below hHeld.2.2.2.1 hb5, chain hHeld.2.2.2.2 hb5⟩ (fun hHeld => ?_)
        clear hK K
        try simp only [Act.put, List.setIfInBounds_toArray, List.set_cons_zero, List.set_cons_succ]
        refine wpAnyH_done (by kernel_rfl) ?_ _
        go_wp2
        go_ret
        exact ⟨rfl, chain hb (chain hbel hHeld.2.2.2.2)⟩
      · rw [decide_eq_false e] at hs
        rw [if_neg (by intro h; injection h with h1 h2; exact e ⟨h1, h2⟩)] at hf
        have HS := Lib.hid hs
        have HF := Lib.hid hf
        clear hs hx R hmem hD hlen e hf
        go_wp2_with fail
        refine wp_region_held_drew (S := fun w' => w'.cell? ⟨g, k * 3 + 1, none⟩ = some (.slice e1 X.length f1) ∧ w'.cell? ⟨g, k * 3 + 2, none⟩ = some (.slice e2 Y.length f2) ∧ w'.cell? ⟨w.heap.size, 0, none⟩ = some (.slice b1 m1 k1) ∧ w'.cell? ⟨w.heap.size, 1, none⟩ = some (.slice b2 m2 k2) ∧ Below wr.heap.size wr w') (by kernel_rfl) ⟨u1, u2, q1, q2, (Below.refl _ _).drew⟩ (fun hHeld => ?_)
        refine wpAnyH_take (i := 0) (oi := { dst := some 12, op := _, type := _, pos := _, after := _, guard := _ }) (v := ?_) rfl (by kernel_rfl) (by kernel_rfl) (by kernel_rfl) (fun _ _ _ h => h) (Or.inl ⟨by rfl, ?_⟩) (by assumption) ?_
        rotate_left
        · intro w hSw
          (try dsimp only at hSw)
          go_simp
          (try (with_reducible rfl))
        try simp only [Act.put, List.setIfInBounds_toArray, List.set_cons_zero, List.set_cons_succ]
        refine wpAnyH_take (i := 1) (oi := { dst := some 13, op := _, type := _, pos := _, after := _, guard := _ }) (v := ?_) rfl (by kernel_rfl) (by kernel_rfl) (by kernel_rfl) (fun _ _ _ h => h) (Or.inl ⟨by rfl, ?_⟩) (by assumption) ?_
        rotate_left
        · intro w hSw
          (try dsimp only at hSw)
          go_simp
          (try (with_reducible rfl))
        try simp only [Act.put, List.setIfInBounds_toArray, List.set_cons_zero, List.set_cons_succ]
        refine wpAnyH_take (i := 2) (oi := { dst := some 14, op := _, type := _, pos := _, after := _, guard := _ }) (v := ?_) rfl (by kernel_rfl) (by kernel_rfl) (by kernel_rfl) (fun _ _ _ h => h) (Or.inl ⟨by rfl, ?_⟩) (by assumption) ?_
        rotate_left
        · intro w hSw
          (try dsimp only at hSw)
          go_simp
          (try (with_reducible rfl))
        try simp only [Act.put, List.setIfInBounds_toArray, List.set_cons_zero, List.set_cons_succ]
        refine wpAnyH_take (i := 3) (oi := { dst := some 15, op := _, type := _, pos := _, after := _, guard := _ }) (v := ?_) rfl (by kernel_rfl) (by kernel_rfl) (by kernel_rfl) (fun _ _ _ h => h) (Or.inl ⟨by rfl, ?_⟩) (by assumption) ?_
        rotate_left
        · intro w hSw
          (try dsimp only at hSw)
          go_simp
          (try (with_reducible rfl))
        try simp only [Act.put, List.setIfInBounds_toArray, List.set_cons_zero, List.set_cons_succ]
        refine wpAnyH_take (i := 4) (oi := { dst := some 16, op := _, type := _, pos := _, after := _, guard := _ }) (v := ?_) rfl (by kernel_rfl) (by kernel_rfl) (by kernel_rfl) (fun _ _ _ h => h) (Or.inl ⟨by rfl, ?_⟩) (by assumption) ?_
        rotate_left
        · intro w hSw
          (try dsimp only at hSw)
          go_simp
          (try (with_reducible rfl))
        try simp only [Act.put, List.setIfInBounds_toArray, List.set_cons_zero, List.set_cons_succ]
        refine wpAnyH_take (i := 5) (oi := { dst := some 17, op := _, type := _, pos := _, after := _, guard := _ }) (v := ?_) rfl (by kernel_rfl) (by kernel_rfl) (by kernel_rfl) (fun _ _ _ h => h) (Or.inl ⟨by rfl, ?_⟩) (by assumption) ?_
        rotate_left
        · intro w hSw
          (try dsimp only at hSw)
          go_simp
          (try (with_reducible rfl))
        try simp only [Act.put, List.setIfInBounds_toArray, List.set_cons_zero, List.set_cons_succ]
        refine wpAnyH_ready (rs := [6]) (by kernel_rfl) (by simp) ?_
        refine AllReadyH.cons (o := { dst := some 18, op := _, type := _, pos := _, after := _, guard := _ }) rfl (fun K hK => ?_) AllReadyH.nil
        go_simp
        refine (HS.out _ hHeld.2.2.2.2).mono ?_
        rintro e w5 ⟨rfl, hb5⟩
        (try go_wp2_with fail)
        refine hK.out _ _ ⟨CellIs.below hHeld.1 hb5, CellIs.below hHeld.2.1 hb5, CellIs.below hHeld.2.2.1 hb5, CellIs.below hHeld.2.2.2.1 hb5, chain hHeld.2.2.2.2 hb5⟩ (fun hHeld => ?_)
        clear hK K
        try simp only [Act.put, List.setIfInBounds_toArray, List.set_cons_zero, List.set_cons_succ]
        refine wpAnyH_done (by kernel_rfl) ?_ _
        go_wp2
        go_roundg (l.length - (k + 1))
        case measure => omega
        case rel => exact ⟨k + 1, by omega, rfl, by go_num, HF.out, chain hbel hHeld.2.2.2.2⟩
    · obtain rfl : k = l.length := by omega
      rw [List.drop_length, List.map_nil, findP] at hf
      subst hf
      go_wp2
      go_ret
      exact ⟨rfl, chain hb hbel⟩
end Go.Proofs.Ytokjkcnjmfbfiaa
