/- Contracts of chapter 10: the next position, of the program and of its model. -/
import Derived.Test.Ythnkckflajkaiaa10a
import Derived.Test.YthnkckflajkaiaaCln
import Derived.Test.YthnkckflajkaiaaM10
import Derived.Test.YthnkckflajkaiaaL03b
namespace Go.Proofs.Ythnkckflajkaiaa
open Go.ChangeShapes Go.WideShapes Go.ChangeAt Go.RowKit
set_option linter.unusedVariables false
set_option linter.unusedSimpArgs false

/-- The first place with a checker. -/
def fpos : List Int → Nat
  | [] => 0
  | x :: l => if 0 < x then 0 else fpos l + 1
theorem fpos_le : ∀ l : List Int, fpos l ≤ l.length
  | [] => Nat.le_refl _
  | x :: l => by
    have := fpos_le l
    rw [fpos, List.length_cons]
    split <;> omega
theorem fpos_none : ∀ (l : List Int) (j : Nat), j < fpos l → l.getD j 0 ≤ 0
  | [], j, h => by simp [fpos] at h
  | x :: l, j, h => by
    rw [fpos] at h
    split at h
    · omega
    · cases j with
      | zero => simp; omega
      | succ j => simpa using fpos_none l j (by omega)
theorem fpos_some : ∀ (l : List Int), fpos l < l.length → 0 < l.getD (fpos l) 0
  | [], h => by simp at h
  | x :: l, h => by
    rw [fpos] at h ⊢
    split
    · rename_i q; simpa using q
    · rename_i q
      rw [if_neg q] at h
      have := fpos_some l (by simpa using h)
      simpa using this
theorem fpos_at (l : List Int) (k : Nat) (h0 : ∀ j, j < k → l.getD j 0 ≤ 0) (h1 : 0 < l.getD k 0) : fpos l = k := by
  rcases Nat.lt_trichotomy (fpos l) k with h | h | h
  · have hk : k < l.length := by
      rcases Nat.lt_or_ge k l.length with q | q
      · exact q
      · rw [getD_out q] at h1; omega
    have a := fpos_some l (by omega)
    have b := h0 _ h
    omega
  · exact h
  · have := fpos_none l k h
    omega
theorem fpos_all (l : List Int) (h0 : ∀ j, j < l.length → l.getD j 0 ≤ 0) : fpos l = l.length := by
  rcases Nat.lt_or_ge (fpos l) l.length with h | h
  · have a := fpos_some l h
    have b := h0 _ h
    omega
  · have := fpos_le l; omega
theorem sum_none : ∀ (l : List Int), (∀ x ∈ l, x ≤ 0) → l.sum ≤ 0
  | [], _ => by simp
  | x :: l, h => by
    have h1 := h x (by simp)
    have h2 := sum_none l (fun y hy => h y (by simp [hy]))
    rw [List.sum_cons]
    omega
theorem fpos_sum (l : List Int) (h : 1 ≤ l.sum) : fpos l < l.length := by
  rcases Nat.lt_or_ge (fpos l) l.length with q | q
  · exact q
  · have hq : fpos l = l.length := by have := fpos_le l; omega
    have := sum_none l (fun x hx => by
      obtain ⟨j, hj, rfl⟩ := List.mem_iff_getElem.1 hx
      have := fpos_none l j (by omega)
      simpa [hj] using this)
    omega
/-- The next position, and whether there is one. -/
def nxR (c : Int) (xs : List Int) : List Int := if xs.sum < c then xs.set 0 (xs.getD 0 0 + 1) else (xs.set (fpos xs) 0).set (fpos xs + 1) (xs.getD (fpos xs + 1) 0 + 1)
def nxB (c : Int) (xs : List Int) : Bool := decide (xs.sum < c) || decide (fpos xs + 1 < xs.length)
def nxL (p c h s : Int) (xs : List Int) : List Int := if okP p c h s xs = true ∧ nxB c xs = true then nxR c xs else []
def nxE (p c h s : Int) (xs : List Int) : Int := if okP p c h s xs = true then (if nxB c xs = true then 0 else 4) else bcE p c h s xs
set_option maxHeartbeats 1000000 in
theorem firstChecker_any (a : Option Addr) (n cap : Nat) (xs : List Int) (w : World) (hn : xs.length = n) (hle : n ≤ 1048576) (hr : IRow w a xs) :
    Calls Try.prog 89 #[.slice a n cap, .func (.func 90) #[] #[]] w fun e w' => e = .returned (.int .i64 (if fpos xs < n then (fpos xs : Int) else -1)) ∧ w = w' := by
  subst hn
  have hp : ∀ (v : Int) (W : World), Calls Try.prog 90 #[.int .i64 v] W fun e w' => e = .returned (.bool (decide (0 < v))) ∧ W = w' := by
    intro v W
    by_cases q : 0 < v
    · rw [decide_eq_true q]
      go_enter Try.func90, Try.ntmps90
      go_wp2
      go_ret
      exact ⟨rfl, rfl⟩
    · rw [decide_eq_false q]
      go_enter Try.func90, Try.ntmps90
      go_wp2
      go_ret
      exact ⟨rfl, rfl⟩
  have he : ∀ (args : Array Value) (w2 : World), (callFunc 90 args).run Try.prog w2 = .ok (.enter 90 args) w2 := fun args w2 => by kernel_rfl
  have h2 : ∀ k : Nat, (∀ j, j < k → xs.getD j 0 ≤ 0) → 0 < xs.getD k 0 → k < xs.length → (if fpos xs < xs.length then (fpos xs : Int) else -1) = (k : Int) := fun k q1 q2 q3 => by rw [fpos_at xs k q1 q2, if_pos q3]
  have h3 : (∀ j, j < xs.length → xs.getD j 0 ≤ 0) → (if fpos xs < xs.length then (fpos xs : Int) else -1) = -1 := fun q => by rw [fpos_all xs q, if_neg (by omega)]
  obtain ⟨R, hR⟩ : ∃ R, (if fpos xs < xs.length then (fpos xs : Int) else -1) = R := ⟨_, rfl⟩
  rw [hR] at h2 h3 ⊢
  have H2 := Lib.hid h2
  have H3 := Lib.hid h3
  have HP := Lib.hid hp
  clear hR h2 h3 hp
  go_enter Try.func89, Try.ntmps89
  go_wp2
  go_loopg [8] xs.length (fun m i wr => w = wr ∧ ∃ k : Nat, k ≤ xs.length ∧ m = xs.length - k ∧ i = .int .i64 k ∧ (∀ j, j < k → xs.getD j 0 ≤ 0))
  case atStart => exact ⟨rfl, 0, by omega, by omega, rfl, fun j hj => by omega⟩
  case round =>
    obtain ⟨rfl, k, hk, hm, rfl, hall⟩ := hrel
    have HA := Lib.hid hall
    clear hall
    by_cases hlt : k < xs.length
    · have hlt' : (k : Int) < (xs.length : Int) := by omega
      have hk0 : (0 : Int) ≤ (k : Int) := by omega
      obtain ⟨b, o, rfl, hc⟩ := hr k hlt
      have hpt := fun W => HP.out (xs.getD k 0) W
      have h2 := H2.out k HA.out
      have hno : ¬ 0 < xs.getD k 0 → ∀ j, j < k + 1 → xs.getD j 0 ≤ 0 := fun q j hj => by
        by_cases e : j = k
        · subst e; omega
        · exact HA.out j (by omega)
      obtain ⟨v, hv⟩ : ∃ v, xs.getD k 0 = v := ⟨_, rfl⟩
      rw [hv] at hc hpt h2 hno
      by_cases q : 0 < v
      · have hRk : R = (k : Int) := h2 q hlt
        subst hRk
        rw [decide_eq_true q] at hpt
        have HC := Lib.hid hpt
        clear hpt h2 hno hv
        go_wp2_with (go_at_fn 90; refine (HC.out _).mono ?_; rintro e w5 ⟨rfl, rfl⟩)
        go_ret
        exact ⟨rfl, rfl⟩
      · rw [decide_eq_false q] at hpt
        have HC := Lib.hid hpt
        have HNO := Lib.hid (hno q)
        clear hpt h2 hno hv
        go_wp2_with (go_at_fn 90; refine (HC.out _).mono ?_; rintro e w5 ⟨rfl, rfl⟩)
        go_roundg (xs.length - (k + 1))
        case measure => omega
        case rel => exact ⟨rfl, k + 1, by omega, rfl, by go_num, HNO.out⟩
    · obtain rfl : k = xs.length := by omega
      have hRk : R = -1 := H3.out HA.out
      subst hRk
      go_wp2
      go_ret
      exact ⟨rfl, rfl⟩
/-- The next position, and whether there is one, handed back. -/
def NextGot (c : Int) (xs : List Int) (w : World) (e : Ending) (w' : World) : Prop :=
  ∃ a k, e = .returned (.tuple #[.slice a (if nxB c xs = true then xs.length else 0) k, .bool (nxB c xs)]) ∧ OSl w.heap.size w'.heap.size w' a (if nxB c xs = true then nxR c xs else []) ∧ Below w.heap.size w w'
theorem nxR_length (c : Int) (xs : List Int) : (nxR c xs).length = xs.length := by
  unfold nxR
  split <;> simp
set_option maxHeartbeats 1000000 in
theorem nextBearoffM_any (p c h s : Int) (a : Option Addr) (n cap : Nat) (xs : List Int) (w : World) (g : okP p c h s xs = true) (hn : xs.length = n) (hr : IRow w a xs) :
    Calls Try.prog 63 #[.agg #[.int .i64 p, .int .i64 c, .int .i64 h, .int .i64 s], .slice a n cap] w (NextGot c xs w) := by
  have hok := okP_parts g
  have h1 : 1 ≤ n := by omega
  have h24 : n ≤ 24 := by omega
  obtain ⟨b, o, rfl, _⟩ := hr 0 (by omega)
  have BV := Blk.new w #[.int .i64 p, .int .i64 c, .int .i64 h, .int .i64 s] 26
  have hb : Below w.heap.size w (w.alloc (.cells #[.int .i64 p, .int .i64 c, .int .i64 h, .int .i64 s] 26)) := (Below.refl _ _).alloc (Nat.le_refl _) _
  have hbl := BV.lt
  have hC := fun W (r : IRow W (some ⟨b, o, none⟩) xs) => clone_any b o n cap xs W hn h1 (by omega) r
  have hS := fun W (r : IRow W (some ⟨b, o, none⟩) xs) => checkersOf_any (some ⟨b, o, none⟩) n cap xs W hn (by omega) (fun x hx => by have := hok.2.2.1 x hx; omega) r
  have hI := fun W (r : IRow W (some ⟨b, o, none⟩) xs) => firstChecker_any (some ⟨b, o, none⟩) n cap xs W hn (by omega) r
  have hx15 := hok.2.2.1
  have hc15 : c ≤ 15 := by omega
  have hs0 : 0 ≤ xs.sum := by omega
  have hfp : ¬ xs.sum < c → fpos xs < n := fun q => by have := fpos_sum xs (by omega); omega
  have hsc := hok.2.2.2.1
  unfold NextGot
  subst hn
  have hlenR := nxR_length c xs
  replace hr := hr.below hb
  have HC := Lib.hid hC
  have HS := Lib.hid hS
  clear hC hS g hok
  obtain ⟨x0, x1, x2, x3, xf, xl⟩ := BV.four
  by_cases hlt : xs.sum < c
  · have e0 : nxB c xs = true := by simp [nxB, hlt]
    have e1 : nxR c xs = xs.set 0 (xs.getD 0 0 + 1) := by rw [nxR, if_pos hlt]
    rw [e0, e1]
    simp only [if_true]
    have hx0 := hx15 _ (getD_mem (xs := xs) (k := 0) (by omega))
    obtain ⟨S, hSe⟩ : ∃ S, xs.sum = S := ⟨_, rfl⟩
    rw [hSe] at HS hlt
    obtain ⟨v, hv⟩ : ∃ v, xs.getD 0 0 = v := ⟨_, rfl⟩
    rw [hv] at hx0 ⊢
    have hv0 : 0 ≤ v := hx0.1
    have hv1 : v ≤ 15 := hx0.2
    have HV := Lib.hid hv
    have HX := Lib.hid hx15
    have h1' : (1 : Int) ≤ (xs.length : Int) := by omega
    clear hI hx15 hfp hsc hs0 hSe hv hx0 e0 e1 hlenR
    go_enter Try.func63, Try.ntmps63
    go_wp2_with (go_at_call 87; refine (HC.out _ hr).mono ?_; rintro e w1 ⟨g1, k1, rfl, hg1, R1, hb1⟩; replace BV := BV.below hb1; replace hr := hr.below hb1; have hgg : w.heap.size < g1 := Nat.lt_of_lt_of_le hbl hg1; replace hb := chain hb hb1; clear hb1 hg1)
    clear x0 x1 x2 x3 xf xl
    have hd_ : w1.drew.heap.size = w1.heap.size := rfl
    replace BV := BV.drew
    replace hb := hb.drew
    replace hr := hr.drew
    replace R1 := R1.drew
    refine wp_region_held_drew (S := fun w' => w'.cell? ⟨w.heap.size, 0, none⟩ = some (.int .i64 p) ∧ w'.cell? ⟨w.heap.size, 1, none⟩ = some (.int .i64 c) ∧ w'.cell? ⟨w.heap.size, 2, none⟩ = some (.int .i64 h) ∧ w'.cell? ⟨w.heap.size, 3, none⟩ = some (.int .i64 s)) (by kernel_rfl) ⟨BV.four.1, BV.four.2.1, BV.four.2.2.1, BV.four.2.2.2.1⟩ (fun hHeld => ?_)
    clear hHeld
    generalize w1.drew = vd at *
    have hHeld : vd.cell? ⟨w.heap.size, 0, none⟩ = some (.int .i64 p) ∧ vd.cell? ⟨w.heap.size, 1, none⟩ = some (.int .i64 c) ∧ vd.cell? ⟨w.heap.size, 2, none⟩ = some (.int .i64 h) ∧ vd.cell? ⟨w.heap.size, 3, none⟩ = some (.int .i64 s) := ⟨BV.four.1, BV.four.2.1, BV.four.2.2.1, BV.four.2.2.2.1⟩
    refine wpAnyH_take (i := 0) (oi := { dst := some 10, op := _, type := _, pos := _, after := _, guard := _ }) (v := ?_) rfl (by kernel_rfl) (by kernel_rfl) (by kernel_rfl) (fun _ _ _ h => h) (Or.inl ⟨by rfl, ?_⟩) (by assumption) ?_
    rotate_left
    · intro w hSw
      (try dsimp only at hSw)
      go_simp
      (try (with_reducible rfl))
    try simp only [Act.put, List.setIfInBounds_toArray, List.set_cons_zero, List.set_cons_succ]
    refine wpAnyH_take (i := 2) (oi := { dst := some 12, op := _, type := _, pos := _, after := _, guard := _ }) (v := ?_) rfl (by kernel_rfl) (by kernel_rfl) (by kernel_rfl) (fun _ _ _ h => h) (Or.inl ⟨by rfl, ?_⟩) (by assumption) ?_
    rotate_left
    · intro w hSw
      (try dsimp only at hSw)
      go_simp
      (try (with_reducible rfl))
    try simp only [Act.put, List.setIfInBounds_toArray, List.set_cons_zero, List.set_cons_succ]
    refine wpAnyH_take (i := 3) (oi := { dst := some 13, op := _, type := _, pos := _, after := _, guard := _ }) (v := ?_) rfl (by kernel_rfl) (by kernel_rfl) (by kernel_rfl) (fun _ _ _ h => h) (Or.inl ⟨by rfl, ?_⟩) (by assumption) ?_
    rotate_left
    · intro w hSw
      (try dsimp only at hSw)
      go_simp
      (try (with_reducible rfl))
    try simp only [Act.put, List.setIfInBounds_toArray, List.set_cons_zero, List.set_cons_succ]
    refine wpAnyH_ready (rs := [1]) (by kernel_rfl) (by simp) ?_
    refine AllReadyH.cons (o := { dst := some 11, op := _, type := _, pos := _, after := _, guard := _ }) rfl (fun K hK => ?_) AllReadyH.nil
    go_simp
    refine (HS.out _ hr).mono ?_
    rintro e wq ⟨rfl, rfl⟩
    (try go_wp2_with fail)
    refine hK.out _ _ ⟨BV.four.1, BV.four.2.1, BV.four.2.2.1, BV.four.2.2.2.1⟩ (fun hHeld => ?_)
    clear hK K
    try simp only [Act.put, List.setIfInBounds_toArray, List.set_cons_zero, List.set_cons_succ]
    refine wpAnyH_take (i := 4) (oi := { dst := some 14, op := _, type := _, pos := _, after := _, guard := _ }) (v := ?_) rfl (by kernel_rfl) (by kernel_rfl) (by kernel_rfl) (fun _ _ _ h => h) (Or.inl ⟨by rfl, ?_⟩) (by assumption) ?_
    rotate_left
    · intro w hSw
      (try dsimp only at hSw)
      go_simp
      (try (with_reducible rfl))
    try simp only [Act.put, List.setIfInBounds_toArray, List.set_cons_zero, List.set_cons_succ]
    refine wpAnyH_done (by kernel_rfl) ?_ _
    clear hHeld
    have hcell := R1.cell 0 (by omega)
    have hfree := R1.free 0
    rw [HV.out] at hcell
    have R2 := R1.set 0 (v + 1)
    have HR2 := Lib.hid R2
    clear R1 R2 hHeld
    go_wp2
    go_ret2
    exact ⟨_, _, rfl, .inr ⟨_, rfl, by omega, HR2.out.lt, HR2.out⟩, hb.setCell (p := ⟨g1, 0, none⟩) (by show _ ≤ g1; omega) _⟩
  · have hq := hfp hlt
    have hq0 : ¬ c < c := by omega
    rw [if_pos hq] at hI
    obtain ⟨q, hqe⟩ : ∃ q, fpos xs = q := ⟨_, rfl⟩
    rw [hqe] at hI hq
    obtain ⟨S, hSe⟩ : ∃ S, xs.sum = S := ⟨_, rfl⟩
    by_cases hlast : q + 1 < xs.length
    · have e0 : nxB c xs = true := by simp [nxB, hqe, hlast]
      have e1 : nxR c xs = (xs.set q 0).set (q + 1) (xs.getD (q + 1) 0 + 1) := by rw [nxR, if_neg hlt, hqe]
      rw [e0, e1]
      simp only [if_true]
      have hx0 := hx15 _ (getD_mem (xs := xs) (k := q + 1) hlast)
      have hgd : (xs.set q 0).getD (q + 1) 0 = xs.getD (q + 1) 0 := by
        simp only [List.getD_eq_getElem?_getD]
        rw [List.getElem?_set_ne (by omega)]
      obtain ⟨v, hv⟩ : ∃ v, xs.getD (q + 1) 0 = v := ⟨_, rfl⟩
      rw [hv] at hx0 hgd ⊢
      have hv0 : 0 ≤ v := hx0.1
      have hv1 : v ≤ 15 := hx0.2
      rw [hSe] at HS hlt
      have HV := Lib.hid hgd
      have HI := Lib.hid hI
      have HX := Lib.hid hx15
      have n1 : ¬ (q : Int) = (xs.length : Int) - 1 := by omega
      have n2 : (0 : Int) ≤ (q : Int) := by omega
      have n3 : (q : Int) < (xs.length : Int) := by omega
      have n4 : (q : Int) + 1 < (xs.length : Int) := by omega
      have n5 : (xs.length : Int) ≤ 24 := by omega
      have n6 : (0 : Int) ≤ (q : Int) + 1 := by omega
      have HQ := Lib.hid hlast
      have HQ2 := Lib.hid hq
      clear hI hx15 hfp hsc hs0 hSe hv hx0 e0 e1 hlenR hgd hqe hq0 hlast hq
      go_enter Try.func63, Try.ntmps63
      go_wp2_with (go_at_call 87; refine (HC.out _ hr).mono ?_; rintro e w1 ⟨g1, k1, rfl, hg1, R1, hb1⟩; replace BV := BV.below hb1; replace hr := hr.below hb1; have hgg : w.heap.size < g1 := Nat.lt_of_lt_of_le hbl hg1; replace hb := chain hb hb1; clear hb1 hg1)
      clear x0 x1 x2 x3 xf xl
      have hd_ : w1.drew.heap.size = w1.heap.size := rfl
      replace BV := BV.drew
      replace hb := hb.drew
      replace hr := hr.drew
      replace R1 := R1.drew
      refine wp_region_held_drew (S := fun w' => w'.cell? ⟨w.heap.size, 0, none⟩ = some (.int .i64 p) ∧ w'.cell? ⟨w.heap.size, 1, none⟩ = some (.int .i64 c) ∧ w'.cell? ⟨w.heap.size, 2, none⟩ = some (.int .i64 h) ∧ w'.cell? ⟨w.heap.size, 3, none⟩ = some (.int .i64 s)) (by kernel_rfl) ⟨BV.four.1, BV.four.2.1, BV.four.2.2.1, BV.four.2.2.2.1⟩ (fun hHeld => ?_)
      clear hHeld
      generalize w1.drew = vd at *
      have hHeld : vd.cell? ⟨w.heap.size, 0, none⟩ = some (.int .i64 p) ∧ vd.cell? ⟨w.heap.size, 1, none⟩ = some (.int .i64 c) ∧ vd.cell? ⟨w.heap.size, 2, none⟩ = some (.int .i64 h) ∧ vd.cell? ⟨w.heap.size, 3, none⟩ = some (.int .i64 s) := ⟨BV.four.1, BV.four.2.1, BV.four.2.2.1, BV.four.2.2.2.1⟩
      refine wpAnyH_take (i := 0) (oi := { dst := some 10, op := _, type := _, pos := _, after := _, guard := _ }) (v := ?_) rfl (by kernel_rfl) (by kernel_rfl) (by kernel_rfl) (fun _ _ _ h => h) (Or.inl ⟨by rfl, ?_⟩) (by assumption) ?_
      rotate_left
      · intro w hSw
        (try dsimp only at hSw)
        go_simp
        (try (with_reducible rfl))
      try simp only [Act.put, List.setIfInBounds_toArray, List.set_cons_zero, List.set_cons_succ]
      refine wpAnyH_take (i := 2) (oi := { dst := some 12, op := _, type := _, pos := _, after := _, guard := _ }) (v := ?_) rfl (by kernel_rfl) (by kernel_rfl) (by kernel_rfl) (fun _ _ _ h => h) (Or.inl ⟨by rfl, ?_⟩) (by assumption) ?_
      rotate_left
      · intro w hSw
        (try dsimp only at hSw)
        go_simp
        (try (with_reducible rfl))
      try simp only [Act.put, List.setIfInBounds_toArray, List.set_cons_zero, List.set_cons_succ]
      refine wpAnyH_take (i := 3) (oi := { dst := some 13, op := _, type := _, pos := _, after := _, guard := _ }) (v := ?_) rfl (by kernel_rfl) (by kernel_rfl) (by kernel_rfl) (fun _ _ _ h => h) (Or.inl ⟨by rfl, ?_⟩) (by assumption) ?_
      rotate_left
      · intro w hSw
        (try dsimp only at hSw)
        go_simp
        (try (with_reducible rfl))
      try simp only [Act.put, List.setIfInBounds_toArray, List.set_cons_zero, List.set_cons_succ]
      refine wpAnyH_ready (rs := [1]) (by kernel_rfl) (by simp) ?_
      refine AllReadyH.cons (o := { dst := some 11, op := _, type := _, pos := _, after := _, guard := _ }) rfl (fun K hK => ?_) AllReadyH.nil
      go_simp
      refine (HS.out _ hr).mono ?_
      rintro e wq ⟨rfl, rfl⟩
      (try go_wp2_with fail)
      refine hK.out _ _ ⟨BV.four.1, BV.four.2.1, BV.four.2.2.1, BV.four.2.2.2.1⟩ (fun hHeld => ?_)
      clear hK K
      try simp only [Act.put, List.setIfInBounds_toArray, List.set_cons_zero, List.set_cons_succ]
      refine wpAnyH_take (i := 4) (oi := { dst := some 14, op := _, type := _, pos := _, after := _, guard := _ }) (v := ?_) rfl (by kernel_rfl) (by kernel_rfl) (by kernel_rfl) (fun _ _ _ h => h) (Or.inl ⟨by rfl, ?_⟩) (by assumption) ?_
      rotate_left
      · intro w hSw
        (try dsimp only at hSw)
        go_simp
        (try (with_reducible rfl))
      try simp only [Act.put, List.setIfInBounds_toArray, List.set_cons_zero, List.set_cons_succ]
      refine wpAnyH_done (by kernel_rfl) ?_ _
      clear hHeld
      have hcell := R1.cell q HQ2.out
      have hfree := R1.free q
      have R2 := R1.set q 0
      have hcell2 := R2.cell (q + 1) (by rw [List.length_set]; exact HQ.out)
      have hfree2 := R2.free (q + 1)
      rw [HV.out] at hcell2
      have R3 := R2.set (q + 1) (v + 1)
      have HR3 := Lib.hid R3
      clear R1 R2 R3 hHeld
      go_wp2_with (go_at_call 89; refine (HI.out _ hr).mono ?_; rintro e wq ⟨rfl, rfl⟩)
      go_ret2
      exact ⟨_, _, rfl, .inr ⟨_, rfl, by omega, HR3.out.lt, HR3.out⟩, (hb.setCell (p := ⟨g1, q, none⟩) (by show _ ≤ g1; omega) _).setCell (p := ⟨g1, q + 1, none⟩) (by show _ ≤ g1; omega) _⟩
    · have e0 : nxB c xs = false := by simp [nxB, hqe, hlt]; omega
      rw [e0]
      simp only [Bool.false_eq_true, if_false]
      rw [hSe] at HS hlt
      have HI := Lib.hid hI
      have n1 : (q : Int) = (xs.length : Int) - 1 := by omega
      have n5 : (xs.length : Int) ≤ 24 := by omega
      have HN1 := Lib.hid n1
      have nb : ((q : Int) == (xs.length : Int) - 1) = true := by rw [beq_iff_eq]; exact n1
      clear hI hx15 hfp hsc hs0 hSe e0 hlenR hqe hq0 hlast hq n1
      go_enter Try.func63, Try.ntmps63
      go_wp2_with (go_at_call 87; refine (HC.out _ hr).mono ?_; rintro e w1 ⟨g1, k1, rfl, hg1, R1, hb1⟩; replace BV := BV.below hb1; replace hr := hr.below hb1; have hgg : w.heap.size < g1 := Nat.lt_of_lt_of_le hbl hg1; replace hb := chain hb hb1; clear hb1 hg1)
      clear x0 x1 x2 x3 xf xl
      have hd_ : w1.drew.heap.size = w1.heap.size := rfl
      replace BV := BV.drew
      replace hb := hb.drew
      replace hr := hr.drew
      replace R1 := R1.drew
      refine wp_region_held_drew (S := fun w' => w'.cell? ⟨w.heap.size, 0, none⟩ = some (.int .i64 p) ∧ w'.cell? ⟨w.heap.size, 1, none⟩ = some (.int .i64 c) ∧ w'.cell? ⟨w.heap.size, 2, none⟩ = some (.int .i64 h) ∧ w'.cell? ⟨w.heap.size, 3, none⟩ = some (.int .i64 s)) (by kernel_rfl) ⟨BV.four.1, BV.four.2.1, BV.four.2.2.1, BV.four.2.2.2.1⟩ (fun hHeld => ?_)
      clear hHeld
      generalize w1.drew = vd at *
      have hHeld : vd.cell? ⟨w.heap.size, 0, none⟩ = some (.int .i64 p) ∧ vd.cell? ⟨w.heap.size, 1, none⟩ = some (.int .i64 c) ∧ vd.cell? ⟨w.heap.size, 2, none⟩ = some (.int .i64 h) ∧ vd.cell? ⟨w.heap.size, 3, none⟩ = some (.int .i64 s) := ⟨BV.four.1, BV.four.2.1, BV.four.2.2.1, BV.four.2.2.2.1⟩
      refine wpAnyH_take (i := 0) (oi := { dst := some 10, op := _, type := _, pos := _, after := _, guard := _ }) (v := ?_) rfl (by kernel_rfl) (by kernel_rfl) (by kernel_rfl) (fun _ _ _ h => h) (Or.inl ⟨by rfl, ?_⟩) (by assumption) ?_
      rotate_left
      · intro w hSw
        (try dsimp only at hSw)
        go_simp
        (try (with_reducible rfl))
      try simp only [Act.put, List.setIfInBounds_toArray, List.set_cons_zero, List.set_cons_succ]
      refine wpAnyH_take (i := 2) (oi := { dst := some 12, op := _, type := _, pos := _, after := _, guard := _ }) (v := ?_) rfl (by kernel_rfl) (by kernel_rfl) (by kernel_rfl) (fun _ _ _ h => h) (Or.inl ⟨by rfl, ?_⟩) (by assumption) ?_
      rotate_left
      · intro w hSw
        (try dsimp only at hSw)
        go_simp
        (try (with_reducible rfl))
      try simp only [Act.put, List.setIfInBounds_toArray, List.set_cons_zero, List.set_cons_succ]
      refine wpAnyH_take (i := 3) (oi := { dst := some 13, op := _, type := _, pos := _, after := _, guard := _ }) (v := ?_) rfl (by kernel_rfl) (by kernel_rfl) (by kernel_rfl) (fun _ _ _ h => h) (Or.inl ⟨by rfl, ?_⟩) (by assumption) ?_
      rotate_left
      · intro w hSw
        (try dsimp only at hSw)
        go_simp
        (try (with_reducible rfl))
      try simp only [Act.put, List.setIfInBounds_toArray, List.set_cons_zero, List.set_cons_succ]
      refine wpAnyH_ready (rs := [1]) (by kernel_rfl) (by simp) ?_
      refine AllReadyH.cons (o := { dst := some 11, op := _, type := _, pos := _, after := _, guard := _ }) rfl (fun K hK => ?_) AllReadyH.nil
      go_simp
      refine (HS.out _ hr).mono ?_
      rintro e wq ⟨rfl, rfl⟩
      (try go_wp2_with fail)
      refine hK.out _ _ ⟨BV.four.1, BV.four.2.1, BV.four.2.2.1, BV.four.2.2.2.1⟩ (fun hHeld => ?_)
      clear hK K
      try simp only [Act.put, List.setIfInBounds_toArray, List.set_cons_zero, List.set_cons_succ]
      refine wpAnyH_take (i := 4) (oi := { dst := some 14, op := _, type := _, pos := _, after := _, guard := _ }) (v := ?_) rfl (by kernel_rfl) (by kernel_rfl) (by kernel_rfl) (fun _ _ _ h => h) (Or.inl ⟨by rfl, ?_⟩) (by assumption) ?_
      rotate_left
      · intro w hSw
        (try dsimp only at hSw)
        go_simp
        (try (with_reducible rfl))
      try simp only [Act.put, List.setIfInBounds_toArray, List.set_cons_zero, List.set_cons_succ]
      refine wpAnyH_done (by kernel_rfl) ?_ _
      clear hHeld
      clear hHeld
      go_wp2_with (go_at_call 89; refine (HI.out _ hr).mono ?_; rintro e wq ⟨rfl, rfl⟩)
      go_ret2
      exact ⟨none, 0, rfl, .inl ⟨rfl, rfl⟩, hb⟩
end Go.Proofs.Ythnkckflajkaiaa
