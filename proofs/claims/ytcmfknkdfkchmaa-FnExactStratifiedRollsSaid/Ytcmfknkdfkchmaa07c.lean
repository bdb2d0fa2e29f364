/- Contracts of the program and of its model on rolls: whether a pair of faces is one, all rolls, their weights and numbers. -/
import Derived.Test.Ytcmfknkdfkchmaa05h0
import Derived.Test.YtcmfknkdfkchmaaM07
namespace Go.Proofs.Ytcmfknkdfkchmaa
open Go.ChangeShapes Go.WideShapes Go.ChangeAt Go.RowKit
set_option linter.unusedVariables false
set_option linter.unusedSimpArgs false

/-- A roll of a valid variant. -/
def ruB (p c h s ra rb : Int) : Bool := vB p c h s && rlB s ra rb
def arL (p c h s : Int) : List Rl := if vB p c h s = true then rollsTo s.toNat else []
def rwI (p c h s ra rb : Int) : Int := if ruB p c h s ra rb = true then (if ra = rb then 1 else 2) else 0
def rnI (p c h s ra rb : Int) : Int := if ruB p c h s ra rb = true then ra * (ra - 1) / 2 + rb - 1 else -1
theorem rlB_iff (s ra rb : Int) : rlB s ra rb = true ↔ 1 ≤ rb ∧ rb ≤ ra ∧ ra ≤ s := by
  unfold rlB inB
  simp only [Bool.and_eq_true, decide_eq_true_eq]
  omega
theorem vB_sides {p c h s : Int} (g : vB p c h s = true) : 1 ≤ s ∧ s ≤ 6 := by
  have := vB_iff.1 g
  omega
set_option maxRecDepth 8000 in
theorem implIsRoll_any (p c h s ra rb : Int) (w : World) :
    Calls Try.prog 21 #[.agg #[.int .i64 p, .int .i64 c, .int .i64 h, .int .i64 s], .agg #[.int .i64 ra, .int .i64 rb]] w fun e w' => e = .returned (.bool (ruB p c h s ra rb)) ∧ Below w.heap.size w w' := by
  obtain ⟨BV, BR, hb, hz⟩ := two_new w #[.int .i64 p, .int .i64 c, .int .i64 h, .int .i64 s] #[.int .i64 ra, .int .i64 rb] 25 33
  clear hz
  obtain ⟨x0, x1, x2, x3, xf, xl⟩ := BV.four
  obtain ⟨z0, z1, zf, zl⟩ := BR.two
  have hv := fun W => valid_any p c h s W
  have hr := fun W => hasRoll_any p c h s ra rb W
  unfold ruB
  obtain ⟨R, hR⟩ : ∃ z, rlB s ra rb = z := ⟨_, rfl⟩
  rw [hR] at hr ⊢
  have HR := Lib.hid hr
  clear hr hR
  cases g : vB p c h s with
  | true =>
    rw [g] at hv
    have HV := Lib.hid hv
    clear hv g
    rw [Bool.true_and]
    go_enter Try.func21, Try.ntmps21
    go_wp2_with (first | (go_at_call 48; refine (HV.out _).mono ?_; clear HV; rintro e w1 ⟨rfl, hb1⟩; obtain ⟨x0, x1, x2, x3, xf, xl⟩ := (BV.below hb1).four; obtain ⟨z0, z1, zf, zl⟩ := (BR.below hb1).two) | (go_at_call 51; refine (HR.out _).mono ?_; rintro e w2 ⟨rfl, hb2⟩))
    go_ret
    exact ⟨rfl, chain (chain hb hb1) hb2⟩
  | false =>
    rw [g] at hv
    have HV := Lib.hid hv
    clear hv g
    rw [Bool.false_and]
    go_enter Try.func21, Try.ntmps21
    go_wp2_with (go_at_call 48; refine (HV.out _).mono ?_; clear HV; rintro e w1 ⟨rfl, hb1⟩; obtain ⟨x0, x1, x2, x3, xf, xl⟩ := (BV.below hb1).four; obtain ⟨z0, z1, zf, zl⟩ := (BR.below hb1).two)
    go_ret
    exact ⟨rfl, chain hb hb1⟩
set_option maxRecDepth 8000 in
set_option maxHeartbeats 1000000 in
theorem isRoll_no (p c h s ra rb : Int) (w : World) (g : vB p c h s = false) :
    Calls Try.prog 33 #[.agg #[.int .i64 p, .int .i64 c, .int .i64 h, .int .i64 s], .agg #[.int .i64 ra, .int .i64 rb]] w fun e w' => e = .returned (.bool false) ∧ Below w.heap.size w w' := by
  obtain ⟨BV, BR, hb, hz⟩ := two_new w #[.int .i64 p, .int .i64 c, .int .i64 h, .int .i64 s] #[.int .i64 ra, .int .i64 rb] 25 33
  clear hz
  obtain ⟨x0, x1, x2, x3, xf, xl⟩ := BV.four
  obtain ⟨z0, z1, zf, zl⟩ := BR.two
  have hV := fun W => specIsVariant_any p c h s W
  rw [g] at hV
  have HV := Lib.hid hV
  clear hV g
  go_enter Try.func33, Try.ntmps33
  go_wp2_with (go_at_call 18; refine (HV.out _).mono ?_; rintro e w1 ⟨rfl, hb1⟩)
  go_ret
  exact ⟨rfl, chain hb hb1⟩
theorem specIsRoll_any (p c h s ra rb : Int) (w : World) :
    Calls Try.prog 33 #[.agg #[.int .i64 p, .int .i64 c, .int .i64 h, .int .i64 s], .agg #[.int .i64 ra, .int .i64 rb]] w fun e w' => e = .returned (.bool (ruB p c h s ra rb)) ∧ Below w.heap.size w w' := by
  unfold ruB
  cases g : vB p c h s with
  | true => rw [Bool.true_and]; exact isRoll_any p c h s ra rb w g
  | false => rw [Bool.false_and]; exact isRoll_no p c h s ra rb w g
set_option maxRecDepth 8000 in
theorem allRolls_any (p c h s : Int) (w : World) : Calls Try.prog 17 #[.agg #[.int .i64 p, .int .i64 c, .int .i64 h, .int .i64 s]] w (RollsGot (arL p c h s) w) := by
  have BV := Blk.new w #[.int .i64 p, .int .i64 c, .int .i64 h, .int .i64 s] 25
  have hb : Below w.heap.size w (w.alloc (.cells #[.int .i64 p, .int .i64 c, .int .i64 h, .int .i64 s] 25)) := (Below.refl _ _).alloc (Nat.le_refl _) _
  obtain ⟨x0, x1, x2, x3, xf, xl⟩ := BV.four
  have hv := fun W => valid_any p c h s W
  unfold arL
  cases g : vB p c h s with
  | true =>
    have hs := vB_sides g
    rw [g] at hv
    rw [if_pos rfl]
    obtain ⟨S, rfl⟩ := Int.eq_ofNat_of_zero_le (by omega : 0 ≤ s)
    rw [show ((S : Int)).toNat = S by simp]
    have hl := fun W => implRolls_any p c h S W (by omega)
    have HV := Lib.hid hv
    have HL := Lib.hid hl
    clear hv g hl hs
    go_enter Try.func17, Try.ntmps17
    go_wp2_with (first | (go_at_call 48; refine (HV.out _).mono ?_; clear HV; rintro e w1 ⟨rfl, hb1⟩; obtain ⟨x0, x1, x2, x3, xf, xl⟩ := (BV.below hb1).four) | (go_at_call 49; refine (HL.out _).mono ?_; clear HL; rintro e w2 ⟨a, k, rfl, hO, hb2⟩))
    go_ret
    exact ⟨a, k, rfl, hO.mono (chain hb hb1).size (Nat.le_refl _), chain (chain hb hb1) hb2⟩
  | false =>
    rw [g] at hv
    rw [if_neg (by simp)]
    have HV := Lib.hid hv
    clear hv g
    go_enter Try.func17, Try.ntmps17
    go_wp2_with (go_at_call 48; refine (HV.out _).mono ?_; clear HV; rintro e w1 ⟨rfl, hb1⟩)
    go_ret
    exact ⟨none, 0, rfl, .inl ⟨rfl, rfl⟩, chain hb hb1⟩
set_option maxRecDepth 8000 in
theorem specAllRolls_any (p c h s : Int) (w : World) : Calls Try.prog 36 #[.agg #[.int .i64 p, .int .i64 c, .int .i64 h, .int .i64 s]] w (RollsGot (arL p c h s) w) := by
  have BV := Blk.new w #[.int .i64 p, .int .i64 c, .int .i64 h, .int .i64 s] 25
  have hb : Below w.heap.size w (w.alloc (.cells #[.int .i64 p, .int .i64 c, .int .i64 h, .int .i64 s] 25)) := (Below.refl _ _).alloc (Nat.le_refl _) _
  obtain ⟨x0, x1, x2, x3, xf, xl⟩ := BV.four
  have hv := fun W => specIsVariant_any p c h s W
  unfold arL
  cases g : vB p c h s with
  | true =>
    have hs := vB_sides g
    rw [g] at hv
    rw [if_pos rfl]
    obtain ⟨S, rfl⟩ := Int.eq_ofNat_of_zero_le (by omega : 0 ≤ s)
    rw [show ((S : Int)).toNat = S by simp]
    have hl := fun W => l07All_any p c h S W (by omega)
    have HV := Lib.hid hv
    have HL := Lib.hid hl
    clear hv g hl hs
    go_enter Try.func36, Try.ntmps36
    go_wp2_with (first | (go_at_call 18; refine (HV.out _).mono ?_; clear HV; rintro e w1 ⟨rfl, hb1⟩; obtain ⟨x0, x1, x2, x3, xf, xl⟩ := (BV.below hb1).four) | (go_at_call 64; refine (HL.out _).mono ?_; clear HL; rintro e w2 ⟨a, k, rfl, hO, hb2⟩))
    go_ret
    exact ⟨a, k, rfl, hO.mono (chain hb hb1).size (Nat.le_refl _), chain (chain hb hb1) hb2⟩
  | false =>
    rw [g] at hv
    rw [if_neg (by simp)]
    have HV := Lib.hid hv
    clear hv g
    go_enter Try.func36, Try.ntmps36
    go_wp2_with (go_at_call 18; refine (HV.out _).mono ?_; clear HV; rintro e w1 ⟨rfl, hb1⟩)
    go_ret
    exact ⟨some ⟨w1.heap.size, 0, none⟩, 0, rfl, .inr ⟨w1.heap.size, rfl, (chain hb hb1).size, by simp, #[], Blk.new w1 #[] 33, by simp [rlsC], rfl⟩, (chain hb hb1).alloc (chain hb hb1).size _⟩
set_option maxRecDepth 8000 in
theorem rollWeight_any (p c h s ra rb : Int) (w : World) :
    Calls Try.prog 22 #[.agg #[.int .i64 p, .int .i64 c, .int .i64 h, .int .i64 s], .agg #[.int .i64 ra, .int .i64 rb]] w fun e w' => e = .returned (.int .i64 (rwI p c h s ra rb)) ∧ Below w.heap.size w w' := by
  obtain ⟨BV, BR, hb, hz⟩ := two_new w #[.int .i64 p, .int .i64 c, .int .i64 h, .int .i64 s] #[.int .i64 ra, .int .i64 rb] 25 33
  clear hz
  obtain ⟨x0, x1, x2, x3, xf, xl⟩ := BV.four
  obtain ⟨z0, z1, zf, zl⟩ := BR.two
  have hi := fun W => implIsRoll_any p c h s ra rb W
  unfold rwI
  cases g : ruB p c h s ra rb with
  | true =>
    rw [g] at hi
    rw [if_pos rfl]
    have hw := fun W => implWeight_any ra rb W
    obtain ⟨R, hR⟩ : ∃ z : Int, (if ra = rb then (1 : Int) else 2) = z := ⟨_, rfl⟩
    rw [hR] at hw ⊢
    have HW := Lib.hid hw
    have HI := Lib.hid hi
    clear hi hw hR g
    go_enter Try.func22, Try.ntmps22
    go_wp2_with (first | (go_at_call 21; refine (HI.out _).mono ?_; clear HI; rintro e w1 ⟨rfl, hb1⟩; obtain ⟨x0, x1, x2, x3, xf, xl⟩ := (BV.below hb1).four; obtain ⟨z0, z1, zf, zl⟩ := (BR.below hb1).two) | (go_at_call 52; refine (HW.out _).mono ?_; rintro e w2 ⟨rfl, hb2⟩))
    go_ret
    exact ⟨rfl, chain (chain hb hb1) hb2⟩
  | false =>
    rw [g] at hi
    rw [if_neg (by simp)]
    have HI := Lib.hid hi
    clear hi g
    go_enter Try.func22, Try.ntmps22
    go_wp2_with (go_at_call 21; refine (HI.out _).mono ?_; clear HI; rintro e w1 ⟨rfl, hb1⟩; obtain ⟨x0, x1, x2, x3, xf, xl⟩ := (BV.below hb1).four; obtain ⟨z0, z1, zf, zl⟩ := (BR.below hb1).two)
    go_ret
    exact ⟨rfl, chain hb hb1⟩
set_option maxRecDepth 8000 in
theorem specRollWeight_any (p c h s ra rb : Int) (w : World) :
    Calls Try.prog 32 #[.agg #[.int .i64 p, .int .i64 c, .int .i64 h, .int .i64 s], .agg #[.int .i64 ra, .int .i64 rb]] w fun e w' => e = .returned (.int .i64 (rwI p c h s ra rb)) ∧ Below w.heap.size w w' := by
  obtain ⟨BV, BR, hb, hz⟩ := two_new w #[.int .i64 p, .int .i64 c, .int .i64 h, .int .i64 s] #[.int .i64 ra, .int .i64 rb] 25 33
  clear hz
  obtain ⟨x0, x1, x2, x3, xf, xl⟩ := BV.four
  obtain ⟨z0, z1, zf, zl⟩ := BR.two
  have hi := fun W => specIsRoll_any p c h s ra rb W
  unfold rwI
  cases g : ruB p c h s ra rb with
  | true =>
    rw [g] at hi
    rw [if_pos rfl]
    have hw := fun W => l07Weight_any ra rb W
    obtain ⟨R, hR⟩ : ∃ z : Int, (if ra = rb then (1 : Int) else 2) = z := ⟨_, rfl⟩
    rw [hR] at hw ⊢
    have HW := Lib.hid hw
    have HI := Lib.hid hi
    clear hi hw hR g
    go_enter Try.func32, Try.ntmps32
    go_wp2_with (first | (go_at_call 33; refine (HI.out _).mono ?_; clear HI; rintro e w1 ⟨rfl, hb1⟩; obtain ⟨x0, x1, x2, x3, xf, xl⟩ := (BV.below hb1).four; obtain ⟨z0, z1, zf, zl⟩ := (BR.below hb1).two) | (go_at_call 63; refine (HW.out _).mono ?_; rintro e w2 ⟨rfl, hb2⟩))
    go_ret
    exact ⟨rfl, chain (chain hb hb1) hb2⟩
  | false =>
    rw [g] at hi
    rw [if_neg (by simp)]
    have HI := Lib.hid hi
    clear hi g
    go_enter Try.func32, Try.ntmps32
    go_wp2_with (go_at_call 33; refine (HI.out _).mono ?_; clear HI; rintro e w1 ⟨rfl, hb1⟩; obtain ⟨x0, x1, x2, x3, xf, xl⟩ := (BV.below hb1).four; obtain ⟨z0, z1, zf, zl⟩ := (BR.below hb1).two)
    go_ret
    exact ⟨rfl, chain hb hb1⟩
theorem ret_i64 {a b : Int} (h : a = b) : Ending.returned (.int .i64 a) = .returned (.int .i64 b) := by rw [h]
set_option maxRecDepth 8000 in
set_option maxHeartbeats 1000000 in
theorem specRollNumber_any (p c h s ra rb : Int) (w : World) :
    Calls Try.prog 40 #[.agg #[.int .i64 p, .int .i64 c, .int .i64 h, .int .i64 s], .agg #[.int .i64 ra, .int .i64 rb]] w fun e w' => e = .returned (.int .i64 (rnI p c h s ra rb)) ∧ Below w.heap.size w w' := by
  obtain ⟨BV, BR, hb, hz⟩ := two_new w #[.int .i64 p, .int .i64 c, .int .i64 h, .int .i64 s] #[.int .i64 ra, .int .i64 rb] 25 33
  clear hz
  obtain ⟨x0, x1, x2, x3, xf, xl⟩ := BV.four
  obtain ⟨z0, z1, zf, zl⟩ := BR.two
  have hi := fun W => specIsRoll_any p c h s ra rb W
  unfold rnI
  cases g : ruB p c h s ra rb with
  | true =>
    rw [g] at hi
    rw [if_pos rfl]
    unfold ruB at g
    rw [Bool.and_eq_true] at g
    have hs := vB_sides g.1
    have hr := (rlB_iff s ra rb).1 g.2
    obtain ⟨r1, r2, r3⟩ := hr
    have HI := Lib.hid hi
    have hra : ra = 1 ∨ ra = 2 ∨ ra = 3 ∨ ra = 4 ∨ ra = 5 ∨ ra = 6 := by omega
    clear hi g r3 hs
    rcases hra with rfl | rfl | rfl | rfl | rfl | rfl
    all_goals
      go_enter Try.func40, Try.ntmps40
      go_wp2_with (go_at_call 33; refine (HI.out _).mono ?_; clear HI; rintro e w1 ⟨rfl, hb1⟩; obtain ⟨x0, x1, x2, x3, xf, xl⟩ := (BV.below hb1).four; obtain ⟨z0, z1, zf, zl⟩ := (BR.below hb1).two)
      go_ret
      exact ⟨ret_i64 (by omega), chain hb hb1⟩
  | false =>
    rw [g] at hi
    rw [if_neg (by simp)]
    have HI := Lib.hid hi
    clear hi g
    go_enter Try.func40, Try.ntmps40
    go_wp2_with (go_at_call 33; refine (HI.out _).mono ?_; clear HI; rintro e w1 ⟨rfl, hb1⟩; obtain ⟨x0, x1, x2, x3, xf, xl⟩ := (BV.below hb1).four; obtain ⟨z0, z1, zf, zl⟩ := (BR.below hb1).two)
    go_ret
    exact ⟨rfl, chain hb hb1⟩
/-- Where a roll stands, told by the list. -/
theorem arL_found {p c h s ra rb : Int} {k : Nat} (hk : (arL p c h s)[k]? = some (ra, rb)) : rnI p c h s ra rb = (k : Int) := by
  unfold arL at hk
  cases g : vB p c h s with
  | false => rw [g] at hk; simp at hk
  | true =>
    have hs := vB_sides g
    rw [g, if_pos rfl] at hk
    have hm := rollsTo_mem s.toNat _ (List.mem_of_getElem? hk)
    have hn := rollsTo_num s.toNat k _ hk
    dsimp only at hm hn
    unfold rnI ruB
    rw [g, Bool.true_and, if_pos ((rlB_iff s ra rb).2 ⟨by omega, by omega, by omega⟩)]
    generalize ra * (ra - 1) = T at *
    omega
theorem arL_lost {p c h s ra rb : Int} (hk : ∀ k, k < (arL p c h s).length → (arL p c h s)[k]? ≠ some (ra, rb)) : rnI p c h s ra rb = -1 := by
  unfold rnI
  cases g : ruB p c h s ra rb with
  | false => rw [if_neg (by simp)]
  | true =>
    exfalso
    unfold ruB at g
    rw [Bool.and_eq_true] at g
    have hr := (rlB_iff s ra rb).1 g.2
    have hm := rollsTo_has s.toNat ra rb (by omega) (by omega) (by omega)
    unfold arL at hk
    rw [g.1, if_pos rfl] at hk
    obtain ⟨k, hk1, hk2⟩ := List.mem_iff_getElem.1 hm
    exact hk k hk1 (by rw [List.getElem?_eq_getElem hk1, hk2])
theorem arL_length (p c h s : Int) : (arL p c h s).length ≤ 36 := by
  unfold arL
  cases g : vB p c h s with
  | false => simp
  | true =>
    rw [if_pos rfl]
    have hs := vB_sides g
    have := rollsTo_length s.toNat
    have h2 : s.toNat * s.toNat ≤ 6 * 6 := Nat.mul_le_mul (by omega) (by omega)
    omega
set_option maxRecDepth 8000 in
set_option maxHeartbeats 1000000 in
theorem rollNumber_any (p c h s ra rb : Int) (w : World) :
    Calls Try.prog 20 #[.agg #[.int .i64 p, .int .i64 c, .int .i64 h, .int .i64 s], .agg #[.int .i64 ra, .int .i64 rb]] w fun e w' => e = .returned (.int .i64 (rnI p c h s ra rb)) ∧ Below w.heap.size w w' := by
  obtain ⟨BV, BR, hb, hz⟩ := two_new w #[.int .i64 p, .int .i64 c, .int .i64 h, .int .i64 s] #[.int .i64 ra, .int .i64 rb] 25 33
  have ha := fun W => allRolls_any p c h s W
  have hlen := arL_length p c h s
  have hfo := fun (k : Nat) hk => arL_found (p := p) (c := c) (h := h) (s := s) (ra := ra) (rb := rb) (k := k) hk
  have hlo := fun hk => arL_lost (p := p) (c := c) (h := h) (s := s) (ra := ra) (rb := rb) hk
  obtain ⟨L, hL⟩ : ∃ L, arL p c h s = L := ⟨_, rfl⟩
  obtain ⟨N, hN⟩ : ∃ N, rnI p c h s ra rb = N := ⟨_, rfl⟩
  rw [hL] at ha hlen hlo
  rw [hL, hN] at hfo
  rw [hN] at hlo ⊢
  have HA := Lib.hid ha
  have HFO := Lib.hid hfo
  have HLO := Lib.hid hlo
  clear ha hfo hlo hL hN
  obtain ⟨x0, x1, x2, x3, xf, xl⟩ := BV.four
  obtain ⟨z0, z1, zf, zl⟩ := BR.two
  go_enter Try.func20, Try.ntmps20
  go_wp2_with fail
  generalize ((w.alloc (.cells #[.int .i64 p, .int .i64 c, .int .i64 h, .int .i64 s] 25)).alloc (.cells #[.int .i64 ra, .int .i64 rb] 33)) = v0 at *
  refine (HA.out _).mono ?_
  rintro e w1 ⟨aL, kL, rfl, hO, hb1⟩
  clear x0 x1 x2 x3 xf xl z0 z1 zf zl
  replace BR := BR.below hb1
  replace hb := chain hb hb1
  clear hb1 BV HA
  go_wp2_with fail
  go_loopg [5, 10, 6] L.length (fun m q5 q10 q6 wr => ∃ k : Nat, k ≤ L.length ∧ m = L.length - k ∧ q10 = .int .i64 k ∧ Below w1.heap.size w1 wr ∧ ∀ j, j < k → L[j]? ≠ some (ra, rb))
  case atStart => exact ⟨0, by omega, by omega, rfl, Below.refl _ _, fun j hj => by omega⟩
  case round =>
    obtain ⟨k, hk, hm, rfl, hbel, hno⟩ := hrel
    by_cases hlt : k < L.length
    · have hlt' : (k : Int) < (L.length : Int) := by omega
      have hk0 : (0 : Int) ≤ (k : Int) := by omega
      obtain ⟨r, hr⟩ : ∃ r, L[k]? = some r := ⟨_, List.getElem?_eq_getElem hlt⟩
      obtain ⟨gL, rfl, RL⟩ := (hO.below hbel).row hlt
      obtain ⟨u0, u1⟩ := RL.two k r hr
      obtain ⟨fa, fb⟩ := r
      dsimp only at u0 u1
      obtain ⟨z0, z1, zf, zl⟩ := (BR.below hbel).two
      have hrl := RL.lt
      have HNO := Lib.hid hno
      have HR_ := Lib.hid hr
      clear RL hno hr
      by_cases e1 : fa = ra
      · subst e1
        by_cases e2 : fb = rb
        · subst e2
          go_wp2
          go_ret
          exact ⟨ret_i64 (HFO.out k HR_.out).symm, hb.trans ((hbel.alloc hbel.size _).mono hb.size)⟩
        · have f1 : (fb == rb) = false := by rw [beq_eq_false_iff_ne]; exact e2
          go_wp2
          go_roundg (L.length - (k + 1))
          case measure => omega
          case rel => exact ⟨k + 1, by omega, rfl, by go_num, hbel.alloc hbel.size _, fun j hj hj2 => by
            by_cases hjk : j < k
            · exact HNO.out j hjk hj2
            · obtain rfl : j = k := by omega
              have := HR_.out.symm.trans hj2
              simp at this
              exact e2 this⟩
      · have f1 : (fa == ra) = false := by rw [beq_eq_false_iff_ne]; exact e1
        go_wp2
        go_roundg (L.length - (k + 1))
        case measure => omega
        case rel => exact ⟨k + 1, by omega, rfl, by go_num, hbel.alloc hbel.size _, fun j hj hj2 => by
            by_cases hjk : j < k
            · exact HNO.out j hjk hj2
            · obtain rfl : j = k := by omega
              have := HR_.out.symm.trans hj2
              simp at this
              exact e1 this.1⟩
    · obtain rfl : k = L.length := by omega
      have hN := HLO.out hno
      clear hno
      go_wp2
      go_ret
      exact ⟨ret_i64 hN.symm, hb.trans (hbel.mono hb.size)⟩
end Go.Proofs.Ytcmfknkdfkchmaa
