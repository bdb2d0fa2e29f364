/- Contracts of the orders of a roll, and of the model's number of dice that are used. -/
import Derived.Test.Ytokjkcnjmfbfiaa05c
import Derived.Lib.MinMax
namespace Go.Proofs.Ytokjkcnjmfbfiaa
open Go.ChangeShapes Go.WideShapes Go.ChangeAt Go.RowKit
set_option linter.unusedVariables false
set_option linter.unusedSimpArgs false
set_option maxRecDepth 4000

/-- Orders have been made and are handed back. -/
def OrdersGot (os : List (List Int)) (w : World) (e : Ending) (w' : World) : Prop :=
  ∃ g, e = .returned (.slice (some ⟨g, 0, none⟩) os.length os.length) ∧ (∀ j o, os[j]? = some o → ∃ gj, w'.cell? ⟨g, j, none⟩ = some (.slice (some ⟨gj, 0, none⟩) o.length o.length) ∧ Row w' gj o) ∧ Below w.heap.size w w'
theorem Row.of_blk {w : World} {g : Nat} {vs : Array Value} {xs : List Int} (h : Blk w g vs 2) (e : vs.toList = ints xs) : Row w g xs := by
  have hl : vs.size = xs.length := by rw [← Array.length_toList, e]; simp [ints]
  exact ⟨vs, h, by omega, by rw [e]; exact List.take_of_length_le (by simp [ints])⟩
set_option maxHeartbeats 1000000 in
theorem l05Orders_any (ra rb : Int) (w : World) :
    Calls Try.prog 83 #[.agg #[.int .i64 ra, .int .i64 rb]] w (OrdersGot (ordersP ra rb) w) := by
  have BR := Blk.new w #[.int .i64 ra, .int .i64 rb] 36
  have hb : Below w.heap.size w (w.alloc (.cells #[.int .i64 ra, .int .i64 rb] 36)) := (Below.refl _ _).alloc (Nat.le_refl _) _
  have hz : (w.alloc (.cells #[.int .i64 ra, .int .i64 rb] 36)).heap.size = w.heap.size + 1 := by simp
  obtain ⟨x0, x1, xf, xl⟩ := BR.two
  by_cases e : ra = rb
  · subst e
    have e1 : ordersP ra ra = [[ra, ra, ra, ra]] := by simp [ordersP]
    rw [e1]
    go_enter Try.func83, Try.ntmps83
    go_wp2
    refine bodyPost_ret (v := .slice (some ⟨w.heap.size + 1 + 1, 0, none⟩) 1 1) (by simp [results, Try.results83, go_sem]) rfl ?_
    generalize (w.alloc (.cells #[.int .i64 ra, .int .i64 ra] 36)) = v0 at *
    have B1 := Blk.new v0 #[.int .i64 ra, .int .i64 ra, .int .i64 ra, .int .i64 ra] 2
    have B2 := Blk.new (v0.alloc (.cells #[.int .i64 ra, .int .i64 ra, .int .i64 ra, .int .i64 ra] 2)) #[.slice (some ⟨w.heap.size + 1, 0, none⟩) 4 4] 24
    rw [World.size_alloc, hz] at B2
    rw [hz] at B1
    refine ⟨_, rfl, fun j o hj => ?_, (hb.alloc hb.size _).alloc (Nat.le_trans hb.size (by simp)) _⟩
    cases j with
    | zero =>
      simp at hj
      subst hj
      exact ⟨w.heap.size + 1, by simpa using B2.cell 0, Row.of_blk (B1.alloc _) rfl⟩
    | succ j => simp at hj
  · have f0 : (ra == rb) = false := by rw [beq_eq_false_iff_ne]; exact e
    have e1 : ordersP ra rb = [[ra, rb], [rb, ra]] := by simp [ordersP, e]
    rw [e1]
    go_enter Try.func83, Try.ntmps83
    go_wp2
    refine bodyPost_ret (v := .slice (some ⟨w.heap.size + 1 + 1 + 1, 0, none⟩) 2 2) (by simp [results, Try.results83, go_sem]) rfl ?_
    generalize (w.alloc (.cells #[.int .i64 ra, .int .i64 rb] 36)) = v0 at *
    have B1 := Blk.new v0 #[.int .i64 ra, .int .i64 rb] 2
    have B2 := Blk.new (v0.alloc (.cells #[.int .i64 ra, .int .i64 rb] 2)) #[.int .i64 rb, .int .i64 ra] 2
    have B3 := Blk.new ((v0.alloc (.cells #[.int .i64 ra, .int .i64 rb] 2)).alloc (.cells #[.int .i64 rb, .int .i64 ra] 2)) #[.slice (some ⟨w.heap.size + 1, 0, none⟩) 2 2, .slice (some ⟨w.heap.size + 1 + 1, 0, none⟩) 2 2] 24
    rw [World.size_alloc, World.size_alloc, hz] at B3
    rw [World.size_alloc, hz] at B2
    rw [hz] at B1
    refine ⟨_, rfl, fun j o hj => ?_, ((hb.alloc hb.size _).alloc (Nat.le_trans hb.size (by simp)) _).alloc (Nat.le_trans hb.size (by simp; omega)) _⟩
    rcases (by omega : j = 0 ∨ j = 1 ∨ 2 ≤ j) with rfl | rfl | h2
    · simp at hj
      subst hj
      exact ⟨w.heap.size + 1, by simpa using B3.cell 0, Row.of_blk ((B1.alloc _).alloc _) rfl⟩
    · simp at hj
      subst hj
      exact ⟨w.heap.size + 1 + 1, by simpa using B3.cell 1, Row.of_blk (B2.alloc _) rfl⟩
    · obtain ⟨j, rfl⟩ := Nat.exists_eq_add_of_le h2
      rw [Nat.add_comm] at hj
      simp at hj
theorem ordersP_mem {ra rb s : Int} {j : Nat} {o : List Int} (ha : inB ra 1 s = true) (hb : inB rb 1 s = true) (h : (ordersP ra rb)[j]? = some o) : o.length ≤ 4 ∧ ∀ d ∈ o, inB d 1 s = true := by
  have hm := List.mem_of_getElem? h
  unfold ordersP at hm
  split at hm
  · simp at hm
    subst hm
    exact ⟨by simp, fun d hd => by simp at hd; rw [hd]; exact ha⟩
  · simp at hm
    rcases hm with rfl | rfl
    · exact ⟨by simp, fun d hd => by simp at hd; rcases hd with rfl | rfl <;> assumption⟩
    · exact ⟨by simp, fun d hd => by simp at hd; rcases hd with rfl | rfl <;> assumption⟩
theorem ordersP_length (ra rb : Int) : (ordersP ra rb).length ≤ 2 := by
  unfold ordersP
  split <;> simp
/-- The greatest number of dice for the first orders. -/
def usedTo (P : Nat) (h : Int) (xs ys : List Int) (os : List (List Int)) (k : Nat) : Nat := ((os.take k).map (fun o => longN P h o (startP xs ys))).foldl max 0
theorem usedTo_succ (P : Nat) (h : Int) (xs ys : List Int) (os : List (List Int)) (k : Nat) (o : List Int) (ho : os[k]? = some o) : usedTo P h xs ys os (k + 1) = max (usedTo P h xs ys os k) (longN P h o (startP xs ys)) := by
  unfold usedTo
  rw [List.take_add_one, ho]
  simp
theorem usedTo_all (P : Nat) (h : Int) (xs ys : List Int) (ra rb : Int) : usedTo P h xs ys (ordersP ra rb) (ordersP ra rb).length = usedP P h xs ys ra rb := by
  unfold usedTo usedP
  rw [List.take_length]
theorem usedTo_le (P : Nat) (h : Int) (xs ys : List Int) (ra rb : Int) (k : Nat) : usedTo P h xs ys (ordersP ra rb) k ≤ 4 := by
  have h1 : ∀ (l : List Nat) (m : Nat), m ≤ 4 → (∀ x ∈ l, x ≤ 4) → l.foldl max m ≤ 4 := by
    intro l
    induction l with
    | nil => intro m hm _; exact hm
    | cons a l ih => intro m hm hl; exact ih _ (by have := hl a (by simp); omega) (fun x hx => hl x (by simp [hx]))
  refine h1 _ 0 (by omega) (fun x hx => ?_)
  obtain ⟨o, ho, rfl⟩ := List.mem_map.1 hx
  have hm := List.mem_of_mem_take ho
  have hl : o.length ≤ 4 := by
    unfold ordersP at hm
    split at hm
    · simp at hm; subst hm; simp
    · simp at hm; rcases hm with rfl | rfl <;> simp
  exact Nat.le_trans (longN_le P h o _) hl
set_option maxRecDepth 8000 in
set_option maxHeartbeats 1000000 in
theorem l05Used_any (P : Nat) (c h s ra rb : Int) (a1 a2 : Option Addr) (n1 n2 c1 c2 : Nat) (xs ys : List Int) (w : World) (h1 : xs.length = n1) (h2 : ys.length = n2) (r1 : IRow w a1 xs) (r2 : IRow w a2 ys) (g : isB (P : Int) c h s xs ys = true) (ha : inB ra 1 s = true) (hbb : inB rb 1 s = true) :
    Calls Try.prog 63 #[.agg #[.int .i64 (P : Int), .int .i64 c, .int .i64 h, .int .i64 s], .agg #[.slice a1 n1 c1, .slice a2 n2 c2], .agg #[.int .i64 ra, .int .i64 rb]] w fun e w' => e = .returned (.int .i64 ((usedP P h xs ys ra rb : Nat) : Int)) ∧ Below w.heap.size w w' := by
  obtain ⟨BV, BB, BR, hb, hz⟩ := three_new w #[.int .i64 (P : Int), .int .i64 c, .int .i64 h, .int .i64 s] #[.slice a1 n1 c1, .slice a2 n2 c2] #[.int .i64 ra, .int .i64 rb] 32 34 36
  have hz1 : w.heap.size + 1 + 1 + 1 ≤ (((w.alloc (.cells #[.int .i64 (P : Int), .int .i64 c, .int .i64 h, .int .i64 s] 32)).alloc (.cells #[.slice a1 n1 c1, .slice a2 n2 c2] 34)).alloc (.cells #[.int .i64 ra, .int .i64 rb] 36)).heap.size := by rw [hz]; omega
  clear hz
  replace r1 := r1.below hb
  replace r2 := r2.below hb
  have HG := Lib.hid g
  have HOM := Lib.hid (fun j o ho => ordersP_mem (j := j) (o := o) ha hbb ho)
  have HOL := ordersP_length ra rb
  have hall := usedTo_all P h xs ys ra rb
  have hule := usedTo_le P h xs ys ra rb
  have HUS := Lib.hid (fun k o ho => usedTo_succ P h xs ys (ordersP ra rb) k o ho)
  have hor := fun W => l05Orders_any ra rb W
  obtain ⟨OS, hOS⟩ : ∃ z, ordersP ra rb = z := ⟨_, rfl⟩
  rw [hOS] at hor HOM HOL hall hule HUS
  obtain ⟨U, hU⟩ : ∃ z, usedP P h xs ys ra rb = z := ⟨_, rfl⟩
  rw [hU] at hall ⊢
  have HALL := Lib.hid hall
  have HULE := Lib.hid hule
  have HOR := Lib.hid hor
  clear hOS hU hall hule hor g ha hbb
  obtain ⟨x0, x1, x2, x3, xf, xl⟩ := BV.four
  obtain ⟨y0, y1, yf, yl⟩ := BB.two
  obtain ⟨z0, z1, zf, zl⟩ := BR.two
  go_enter Try.func63, Try.ntmps63
  go_wp2_with fail
  clear x0 x1 x2 x3 xf xl y0 y1 yf yl z0 z1 zf zl
  generalize (((w.alloc (.cells #[.int .i64 (P : Int), .int .i64 c, .int .i64 h, .int .i64 s] 32)).alloc (.cells #[.slice a1 n1 c1, .slice a2 n2 c2] 34)).alloc (.cells #[.int .i64 ra, .int .i64 rb] 36)) = v0 at *
  refine (HOR.out _).mono ?_
  rintro e w1 ⟨gO, rfl, hcells, hb1⟩
  have HC := Lib.hid hcells
  clear hcells
  go_wp2_with fail
  go_loopg [7, 9, 10, 11, 12] OS.length (fun m q7 q9 q10 q11 q12 wr => ∃ i : Nat, i ≤ OS.length ∧ m = OS.length - i ∧ q9 = .int .i64 i ∧ q7 = .int .i64 ((usedTo P h xs ys OS i : Nat) : Int) ∧ Below w1.heap.size w1 wr)
  case atStart => exact ⟨0, by omega, by omega, rfl, by simp [usedTo], Below.refl _ _⟩
  case round =>
    obtain ⟨i, hi, hm, rfl, rfl, hbq⟩ := hrel
    have hbel := chain hb1 hbq
    have hul := HULE.out i
    by_cases hlt : i < OS.length
    · have hlt' : (i : Int) < (OS.length : Int) := by omega
      have hi0 : (0 : Int) ≤ (i : Int) := by omega
      obtain ⟨od, hod⟩ : ∃ o, OS[i]? = some o := ⟨_, List.getElem?_eq_getElem hlt⟩
      obtain ⟨gj, hcj, hRj⟩ := HC.out i od hod
      obtain ⟨ho4, hodd⟩ := HOM.out i od hod
      have hus := HUS.out i od hod
      have hNle := longN_le P h od (startP xs ys)
      have hlg := fun W (hW : Below wr.heap.size wr W) => l05Longest_any P c h s a1 a2 (some ⟨gj, 0, none⟩) n1 n2 od.length c1 c2 od.length xs ys od W h1 h2 rfl ho4 (r1.below (chain hbel hW)) (r2.below (chain hbel hW)) (hRj.below (chain hbq hW)).irow HG.out hodd
      obtain ⟨NN, hNN⟩ : ∃ z, longN P h od (startP xs ys) = z := ⟨_, rfl⟩
      obtain ⟨FF, hFF⟩ : ∃ z, fineP P h od (startP xs ys) = z := ⟨_, rfl⟩
      obtain ⟨UU, hUU⟩ : ∃ z, usedTo P h xs ys OS i = z := ⟨_, rfl⟩
      rw [hNN, hFF] at hlg
      rw [hNN, hUU] at hus
      rw [hNN] at hNle
      rw [hUU] at hul ⊢
      have HLG := Lib.hid hlg
      have HUS2 := Lib.hid hus
      obtain ⟨MM, hMM⟩ : ∃ z : Int, max (UU : Int) (NN : Int) = z := ⟨_, rfl⟩
      have hmx : MM = ((max UU NN : Nat) : Int) := by omega
      have HMX := Lib.hid hmx
      clear hmx
      clear hlg hus hNN hFF hUU hRj hodd hod
      obtain ⟨x0, x1, x2, x3, xf, xl⟩ := (BV.below hbel).four
      obtain ⟨y0, y1, yf, yl⟩ := (BB.below hbel).two
      go_wp2_with fail
      clear x0 x1 x2 x3 xf xl y0 y1 yf yl
      refine wp_region_held_drew (S := fun w' => w'.cell? ⟨w.heap.size, 0, none⟩ = some (.int .i64 (P : Int)) ∧ w'.cell? ⟨w.heap.size, 1, none⟩ = some (.int .i64 c) ∧ w'.cell? ⟨w.heap.size, 2, none⟩ = some (.int .i64 h) ∧ w'.cell? ⟨w.heap.size, 3, none⟩ = some (.int .i64 s) ∧ w'.cell? ⟨w.heap.size + 1, 0, none⟩ = some (.slice a1 n1 c1) ∧ w'.cell? ⟨w.heap.size + 1, 1, none⟩ = some (.slice a2 n2 c2) ∧ w'.cell? ⟨gO, i, none⟩ = some (.slice (some ⟨gj, 0, none⟩) od.length od.length)) (by kernel_rfl) ⟨(BV.below (chain hbel (Below.refl _ _).drew)).four.1, (BV.below (chain hbel (Below.refl _ _).drew)).four.2.1, (BV.below (chain hbel (Below.refl _ _).drew)).four.2.2.1, (BV.below (chain hbel (Below.refl _ _).drew)).four.2.2.2.1, (BB.below (chain hbel (Below.refl _ _).drew)).two.1, (BB.below (chain hbel (Below.refl _ _).drew)).two.2.1, CellIs.below hcj (chain hbq (Below.refl _ _).drew)⟩ (fun hHeld => ?_)
      refine wpAnyH_take (i := 0) (oi := { dst := some 22, op := _, type := _, pos := _, after := _, guard := _ }) (v := ?_) rfl (by kernel_rfl) (by kernel_rfl) (by kernel_rfl) (fun _ _ _ h => h) (Or.inl ⟨by rfl, ?_⟩) (by assumption) ?_
      rotate_left
      · intro w hSw
        (try dsimp only at hSw)
        go_simp
        (try (with_reducible rfl))
      try simp only [Act.put, List.setIfInBounds_toArray, List.set_cons_zero, List.set_cons_succ]
      refine wpAnyH_take (i := 1) (oi := { dst := some 23, op := _, type := _, pos := _, after := _, guard := _ }) (v := ?_) rfl (by kernel_rfl) (by kernel_rfl) (by kernel_rfl) (fun _ _ _ h => h) (Or.inl ⟨by rfl, ?_⟩) (by assumption) ?_
      rotate_left
      · intro w hSw
        (try dsimp only at hSw)
        go_simp
        (try (with_reducible rfl))
      try simp only [Act.put, List.setIfInBounds_toArray, List.set_cons_zero, List.set_cons_succ]
      refine wpAnyH_take (i := 2) (oi := { dst := some 24, op := _, type := _, pos := _, after := _, guard := _ }) (v := ?_) rfl (by kernel_rfl) (by kernel_rfl) (by kernel_rfl) (fun _ _ _ h => h) (Or.inl ⟨by rfl, ?_⟩) (by assumption) ?_
      rotate_left
      · intro w hSw
        (try dsimp only at hSw)
        go_simp
        (try (with_reducible rfl))
      try simp only [Act.put, List.setIfInBounds_toArray, List.set_cons_zero, List.set_cons_succ]
      refine wpAnyH_take (i := 3) (oi := { dst := some 25, op := _, type := _, pos := _, after := _, guard := _ }) (v := ?_) rfl (by kernel_rfl) (by kernel_rfl) (by kernel_rfl) (fun _ _ _ h => h) (Or.inl ⟨by rfl, ?_⟩) (by assumption) ?_
      rotate_left
      · intro w hSw
        (try dsimp only at hSw)
        go_simp
        (try (with_reducible rfl))
      try simp only [Act.put, List.setIfInBounds_toArray, List.set_cons_zero, List.set_cons_succ]
      refine wpAnyH_take (i := 4) (oi := { dst := some 26, op := _, type := _, pos := _, after := _, guard := _ }) (v := ?_) rfl (by kernel_rfl) (by kernel_rfl) (by kernel_rfl) (fun _ _ _ h => h) (Or.inl ⟨by rfl, ?_⟩) (by assumption) ?_
      rotate_left
      · intro w hSw
        (try dsimp only at hSw)
        go_simp
        (try (with_reducible rfl))
      try simp only [Act.put, List.setIfInBounds_toArray, List.set_cons_zero, List.set_cons_succ]
      refine wpAnyH_take (i := 5) (oi := { dst := some 27, op := _, type := _, pos := _, after := _, guard := _ }) (v := ?_) rfl (by kernel_rfl) (by kernel_rfl) (by kernel_rfl) (fun _ _ _ h => h) (Or.inl ⟨by rfl, ?_⟩) (by assumption) ?_
      rotate_left
      · intro w hSw
        (try dsimp only at hSw)
        go_simp
        (try (with_reducible rfl))
      try simp only [Act.put, List.setIfInBounds_toArray, List.set_cons_zero, List.set_cons_succ]
      refine wpAnyH_ready (rs := [6]) (by kernel_rfl) (by simp) ?_
      refine AllReadyH.cons (o := { dst := some 28, op := _, type := _, pos := _, after := _, guard := _ }) rfl (fun K hK => ?_) AllReadyH.nil
      go_simp
      refine (HLG.out _ (Below.refl _ _).drew).mono ?_
      rintro e w5 ⟨aL, kL, LL, rfl, -, -, -, -, hb5⟩
      have hb5 := from_drew hb5
      (try go_wp2_with fail)
      refine hK.out _ _ ⟨(BV.below (chain hbel hb5)).four.1, (BV.below (chain hbel hb5)).four.2.1, (BV.below (chain hbel hb5)).four.2.2.1, (BV.below (chain hbel hb5)).four.2.2.2.1, (BB.below (chain hbel hb5)).two.1, (BB.below (chain hbel hb5)).two.2.1, CellIs.below hcj (chain hbq hb5)⟩ (fun hHeld => ?_)
      clear hK K
      try simp only [Act.put, List.setIfInBounds_toArray, List.set_cons_zero, List.set_cons_succ]
      refine wpAnyH_take (i := 7) (oi := { dst := some 21, op := _, type := _, pos := _, after := _, guard := _ }) (v := ?_) rfl (by kernel_rfl) (by kernel_rfl) (by kernel_rfl) (fun _ _ _ h => h) (Or.inl ⟨by rfl, ?_⟩) (by assumption) ?_
      rotate_left
      · intro w hSw
        (try dsimp only at hSw)
        go_simp
        (try (with_reducible rfl))
      try simp only [Act.put, List.setIfInBounds_toArray, List.set_cons_zero, List.set_cons_succ]
      refine wpAnyH_take (i := 8) (oi := { dst := some 29, op := _, type := _, pos := _, after := _, guard := _ }) (v := ?_) rfl (by kernel_rfl) (by kernel_rfl) (by kernel_rfl) (fun _ _ _ h => h) (Or.inl ⟨by rfl, ?_⟩) (by assumption) ?_
      rotate_left
      · intro w hSw
        (try dsimp only at hSw)
        go_simp
        (try (with_reducible rfl))
      try simp only [Act.put, List.setIfInBounds_toArray, List.set_cons_zero, List.set_cons_succ]
      refine wpAnyH_take (i := 9) (oi := { dst := some 30, op := _, type := _, pos := _, after := _, guard := _ }) (v := ?_) rfl (by kernel_rfl) (by kernel_rfl) (by kernel_rfl) (fun _ _ _ h => h) (Or.inl ⟨by rfl, ?_⟩) (by assumption) ?_
      rotate_left
      · intro w hSw
        (try dsimp only at hSw)
        go_simp
        (try (with_reducible rfl))
      try simp only [Act.put, List.setIfInBounds_toArray, List.set_cons_zero, List.set_cons_succ]
      refine wpAnyH_take (i := 10) (oi := { dst := some 31, op := _, type := _, pos := _, after := _, guard := _ }) (v := ?_) rfl (by kernel_rfl) (by kernel_rfl) (by kernel_rfl) (fun _ _ _ h => h) (Or.inl ⟨by rfl, ?_⟩) (by assumption) ?_
      rotate_left
      · intro w hSw
        (try dsimp only at hSw)
        go_simp
        (try (with_reducible rfl))
      try simp only [Act.put, List.setIfInBounds_toArray, List.set_cons_zero, List.set_cons_succ]
      refine wpAnyH_take (i := 11) (oi := { dst := some 10, op := _, type := _, pos := _, after := _, guard := _ }) (v := ?_) rfl (by kernel_rfl) (by kernel_rfl) (by kernel_rfl) (fun _ _ _ h => h) (Or.inl ⟨by rfl, ?_⟩) (by assumption) ?_
      rotate_left
      · intro w hSw
        (try dsimp only at hSw)
        go_simp
        (try (with_reducible rfl))
      try simp only [Act.put, List.setIfInBounds_toArray, List.set_cons_zero, List.set_cons_succ]
      refine wpAnyH_take (i := 12) (oi := { dst := some 11, op := _, type := _, pos := _, after := _, guard := _ }) (v := ?_) rfl (by kernel_rfl) (by kernel_rfl) (by kernel_rfl) (fun _ _ _ h => h) (Or.inl ⟨by rfl, ?_⟩) (by assumption) ?_
      rotate_left
      · intro w hSw
        (try dsimp only at hSw)
        go_simp
        (try (with_reducible rfl))
      try simp only [Act.put, List.setIfInBounds_toArray, List.set_cons_zero, List.set_cons_succ]
      refine wpAnyH_take (i := 13) (oi := { dst := some 12, op := _, type := _, pos := _, after := _, guard := _ }) (v := ?_) rfl (by kernel_rfl) (by kernel_rfl) (by kernel_rfl) (fun _ _ _ h => h) (Or.inl ⟨by rfl, ?_⟩) (by assumption) ?_
      rotate_left
      · intro w hSw
        (try dsimp only at hSw)
        go_simp
        (try (with_reducible rfl))
      try simp only [Act.put, List.setIfInBounds_toArray, List.set_cons_zero, List.set_cons_succ]
      refine wpAnyH_done (by kernel_rfl) ?_ _
      clear hHeld
      go_wp2
      go_roundg (OS.length - (i + 1))
      case measure => omega
      case rel => exact ⟨i + 1, by omega, rfl, by go_num, by rw [HUS2.out, HMX.out], chain hbq hb5⟩
    · obtain rfl : i = OS.length := by omega
      rw [HALL.out]
      clear hul
      go_wp2
      go_ret
      exact ⟨rfl, chain hb hbel⟩
end Go.Proofs.Ytokjkcnjmfbfiaa
