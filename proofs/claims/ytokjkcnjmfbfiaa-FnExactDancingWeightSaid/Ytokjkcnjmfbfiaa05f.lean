/- Contracts on the rolls that cannot be used, of the program and of its model. -/
import Derived.Test.Ytokjkcnjmfbfiaa05d
import Derived.Test.Ytokjkcnjmfbfiaa05e
import Derived.Test.Ytokjkcnjmfbfiaa04f
import Derived.Test.Ytokjkcnjmfbfiaa04k
namespace Go.Proofs.Ytokjkcnjmfbfiaa
open Go.ChangeShapes Go.WideShapes Go.ChangeAt Go.RowKit
set_option linter.unusedVariables false
set_option linter.unusedSimpArgs false
set_option maxRecDepth 4000

theorem addAll_nil : ∀ (l out : List Ply), addAll out l = [] ↔ out = [] ∧ l = []
  | [], out => by simp [addAll]
  | x :: l, out => by
    have h1 := addAll_nil l (addP out x)
    have h2 : addP out x ≠ [] := by
      unfold addP
      split
      · rename_i h
        intro e
        rw [e] at h
        simp at h
      · simp
    simp only [addAll, List.foldl_cons] at h1 ⊢
    constructor
    · intro h
      exact absurd (h1.1 h).1 h2
    · rintro ⟨-, h⟩
      simp at h
theorem next_start (P : Nat) (h d : Int) (xs ys : List Int) : nextP P h d (startP xs ys) = [] ↔ legL P h xs ys d = [] := by
  unfold nextP
  rw [addAll_nil]
  simp [startP, cand]
theorem long_zero (P : Nat) (h d : Int) (ds : List Int) (xs ys : List Int) : longN P h (d :: ds) (startP xs ys) = 0 ↔ legL P h xs ys d = [] := by
  rw [longN, ← next_start]
  split
  · rename_i e
    simp [e]
  · rename_i e
    simp [e]
/-- No die of a roll can be used. -/
def dncB (P : Nat) (h : Int) (xs ys : List Int) (ra rb : Int) : Bool := decide (legL P h xs ys ra = []) && decide (legL P h xs ys rb = [])
theorem used_zero (P : Nat) (h : Int) (xs ys : List Int) (ra rb : Int) : usedP P h xs ys ra rb = 0 ↔ dncB P h xs ys ra rb = true := by
  unfold usedP dncB ordersP
  rw [Bool.and_eq_true, decide_eq_true_eq, decide_eq_true_eq]
  split
  · rename_i e
    subst e
    simp only [List.map_cons, List.map_nil, List.foldl_cons, List.foldl_nil]
    rw [show max 0 (longN P h [ra, ra, ra, ra] (startP xs ys)) = longN P h [ra, ra, ra, ra] (startP xs ys) by omega, long_zero]
    simp
  · simp only [List.map_cons, List.map_nil, List.foldl_cons, List.foldl_nil]
    rw [← long_zero P h ra [rb], ← long_zero P h rb [ra]]
    omega
/-- The weight of the first rolls that cannot be used. -/
def dwTo (P : Nat) (h : Int) (xs ys : List Int) (l : List Rl) : Nat → Int
  | 0 => 0
  | k + 1 => dwTo P h xs ys l k + (match l[k]? with | none => 0 | some r => if dncB P h xs ys r.1 r.2 = true then (if r.1 = r.2 then 1 else 2) else 0)
theorem dwTo_succ (P : Nat) (h : Int) (xs ys : List Int) (l : List Rl) (k : Nat) (r : Rl) (hr : l[k]? = some r) : dwTo P h xs ys l (k + 1) = dwTo P h xs ys l k + (if dncB P h xs ys r.1 r.2 = true then (if r.1 = r.2 then 1 else 2) else 0) := by
  rw [dwTo, hr]
theorem dwTo_bound (P : Nat) (h : Int) (xs ys : List Int) (l : List Rl) : ∀ k : Nat, 0 ≤ dwTo P h xs ys l k ∧ dwTo P h xs ys l k ≤ 2 * (k : Int)
  | 0 => by simp [dwTo]
  | k + 1 => by
    have := dwTo_bound P h xs ys l k
    rw [dwTo]
    cases l[k]? with
    | none => simp; omega
    | some r =>
      dsimp only
      split
      · split <;> omega
      · omega
def dwI (p h s : Int) (xs ys : List Int) : Int := dwTo p.toNat h xs ys (rollsTo s.toNat) (rollsTo s.toNat).length
set_option maxRecDepth 8000 in
set_option maxHeartbeats 2000000 in
theorem dances_any (P : Nat) (c h s ra rb : Int) (a1 a2 : Option Addr) (n1 n2 c1 c2 : Nat) (xs ys : List Int) (w : World) (h1 : xs.length = n1) (h2 : ys.length = n2) (r1 : IRow w a1 xs) (r2 : IRow w a2 ys) (g : isB (P : Int) c h s xs ys = true) (ha : 1 ≤ ra ∧ ra ≤ 6) (hbb : 1 ≤ rb ∧ rb ≤ 6) :
    Calls Try.prog 81 #[.agg #[.int .i64 (P : Int), .int .i64 c, .int .i64 h, .int .i64 s], .agg #[.slice a1 n1 c1, .slice a2 n2 c2], .agg #[.int .i64 ra, .int .i64 rb]] w fun e w' => e = .returned (.bool (dncB P h xs ys ra rb)) ∧ Below w.heap.size w w' := by
  obtain ⟨p0, p1, k0, k1, k2, k3, N1, N2, hx, hy, s0, s1, s2, s3⟩ := isB_parts g
  have hA := fun W f1 f2 B (q1 : Pays f1 B xs W) (q2 : Pays f2 B ys W) => legalSteps_any P c h s f1 f2 B xs ys W (by omega) (by omega) (by omega) (by omega) hx hy q1 q2 ra (by omega) (by omega)
  have hB2 := fun W f1 f2 B (q1 : Pays f1 B xs W) (q2 : Pays f2 B ys W) => legalSteps_any P c h s f1 f2 B xs ys W (by omega) (by omega) (by omega) (by omega) hx hy q1 q2 rb (by omega) (by omega)
  unfold dncB
  obtain ⟨LA, hLA⟩ : ∃ z, legL P h xs ys ra = z := ⟨_, rfl⟩
  obtain ⟨LB, hLB⟩ : ∃ z, legL P h xs ys rb = z := ⟨_, rfl⟩
  rw [hLA] at hA
  rw [hLB] at hB2
  rw [hLA, hLB]
  obtain ⟨DA, hDA⟩ : ∃ z, decide (LA = []) = z := ⟨_, rfl⟩
  obtain ⟨DB, hDB⟩ : ∃ z, decide (LB = []) = z := ⟨_, rfl⟩
  rw [hDA, hDB]
  have HA := Lib.hid hA
  have HB2 := Lib.hid hB2
  clear hA hB2 hLA hLB hx hy g
  obtain ⟨BV, BB, BR, hb, hz⟩ := three_new w #[.int .i64 (P : Int), .int .i64 c, .int .i64 h, .int .i64 s] #[.slice a1 n1 c1, .slice a2 n2 c2] #[.int .i64 ra, .int .i64 rb] 32 34 36
  clear hz
  obtain ⟨x0, x1, x2, x3, xf, xl⟩ := BV.four
  obtain ⟨y0, y1, yf, yl⟩ := BB.two
  obtain ⟨z0, z1, zf, zl⟩ := BR.two
  by_cases eA : LA = []
  · obtain rfl : DA = true := by rw [← hDA, decide_eq_true_eq]; exact eA
    rw [Bool.true_and]
    clear hDA
    have f0 : ((LA.length : Int) == 0) = true := by rw [eA]; rfl
    clear eA
    by_cases eB : LB = []
    · obtain rfl : DB = true := by rw [← hDB, decide_eq_true_eq]; exact eB
      clear hDB
      have f1 : ((LB.length : Int) == 0) = true := by rw [eB]; rfl
      clear eB
      go_enter Try.func81, Try.ntmps81
      go_wp2_with (first | (go_at_call 123; refine (countsOf_any (P : Int) c h s a1 a2 n1 c1 n2 c2 xs ys _ h1 h2 (r1.below hb) (r2.below hb)).mono ?_; rintro e w2 ⟨B, rfl, q1, q2, hb2⟩; obtain ⟨x0, x1, x2, x3, xf, xl⟩ := (BV.below hb2).four; obtain ⟨y0, y1, yf, yl⟩ := (BB.below hb2).two; obtain ⟨z0, z1, zf, zl⟩ := (BR.below hb2).two; obtain ⟨t0, t1, t2, tf, tl⟩ := (Blk.new w2 #[.int .i64 (P : Int), fv 157 B, fv 158 B] 151).tri; obtain ⟨x0, x1, x2, x3, xf, xl⟩ := ((BV.below hb2).alloc (.cells #[.int .i64 (P : Int), fv 157 B, fv 158 B] 151)).four; obtain ⟨y0, y1, yf, yl⟩ := ((BB.below hb2).alloc (.cells #[.int .i64 (P : Int), fv 157 B, fv 158 B] 151)).two; obtain ⟨z0, z1, zf, zl⟩ := ((BR.below hb2).alloc (.cells #[.int .i64 (P : Int), fv 157 B, fv 158 B] 151)).two; have hal := (Below.refl w2.heap.size w2).alloc (Nat.le_refl _) (.cells #[.int .i64 (P : Int), fv 157 B, fv 158 B] 151)) | (go_at_call 126; refine (HA.out _ _ _ B (q1.below hal) (q2.below hal)).mono ?_; clear HA; rintro e w3 ⟨aA, kA, rfl, OA, hb3⟩; obtain ⟨x0, x1, x2, x3, xf, xl⟩ := (((BV.below hb2).below hal).below hb3).four; obtain ⟨t0, t1, t2, tf, tl⟩ := ((Blk.new w2 #[.int .i64 (P : Int), fv 157 B, fv 158 B] 151).below hb3).tri; obtain ⟨z0, z1, zf, zl⟩ := (((BR.below hb2).below hal).below hb3).two) | (go_at_call 126; refine (HB2.out _ _ _ B ((q1.below hal).below hb3) ((q2.below hal).below hb3)).mono ?_; rintro e w4 ⟨aB, kB, rfl, OB, hb4⟩))
      go_ret
      exact ⟨rfl, chain hb (chain (chain (chain hb2 hal) hb3) hb4)⟩
    · have hl : 0 < LB.length := List.length_pos_iff.2 eB
      have f1 : ((LB.length : Int) == 0) = false := by rw [beq_eq_false_iff_ne]; omega
      obtain rfl : DB = false := by rw [← hDB, decide_eq_false_iff_not]; exact eB
      clear hDB eB
      go_enter Try.func81, Try.ntmps81
      go_wp2_with (first | (go_at_call 123; refine (countsOf_any (P : Int) c h s a1 a2 n1 c1 n2 c2 xs ys _ h1 h2 (r1.below hb) (r2.below hb)).mono ?_; rintro e w2 ⟨B, rfl, q1, q2, hb2⟩; obtain ⟨x0, x1, x2, x3, xf, xl⟩ := (BV.below hb2).four; obtain ⟨y0, y1, yf, yl⟩ := (BB.below hb2).two; obtain ⟨z0, z1, zf, zl⟩ := (BR.below hb2).two; obtain ⟨t0, t1, t2, tf, tl⟩ := (Blk.new w2 #[.int .i64 (P : Int), fv 157 B, fv 158 B] 151).tri; obtain ⟨x0, x1, x2, x3, xf, xl⟩ := ((BV.below hb2).alloc (.cells #[.int .i64 (P : Int), fv 157 B, fv 158 B] 151)).four; obtain ⟨y0, y1, yf, yl⟩ := ((BB.below hb2).alloc (.cells #[.int .i64 (P : Int), fv 157 B, fv 158 B] 151)).two; obtain ⟨z0, z1, zf, zl⟩ := ((BR.below hb2).alloc (.cells #[.int .i64 (P : Int), fv 157 B, fv 158 B] 151)).two; have hal := (Below.refl w2.heap.size w2).alloc (Nat.le_refl _) (.cells #[.int .i64 (P : Int), fv 157 B, fv 158 B] 151)) | (go_at_call 126; refine (HA.out _ _ _ B (q1.below hal) (q2.below hal)).mono ?_; clear HA; rintro e w3 ⟨aA, kA, rfl, OA, hb3⟩; obtain ⟨x0, x1, x2, x3, xf, xl⟩ := (((BV.below hb2).below hal).below hb3).four; obtain ⟨t0, t1, t2, tf, tl⟩ := ((Blk.new w2 #[.int .i64 (P : Int), fv 157 B, fv 158 B] 151).below hb3).tri; obtain ⟨z0, z1, zf, zl⟩ := (((BR.below hb2).below hal).below hb3).two) | (go_at_call 126; refine (HB2.out _ _ _ B ((q1.below hal).below hb3) ((q2.below hal).below hb3)).mono ?_; rintro e w4 ⟨aB, kB, rfl, OB, hb4⟩))
      go_ret
      exact ⟨rfl, chain hb (chain (chain (chain hb2 hal) hb3) hb4)⟩
  · have hl : 0 < LA.length := List.length_pos_iff.2 eA
    have f1 : ((LA.length : Int) == 0) = false := by rw [beq_eq_false_iff_ne]; omega
    obtain rfl : DA = false := by rw [← hDA, decide_eq_false_iff_not]; exact eA
    rw [Bool.false_and]
    clear hDA eA hDB
    go_enter Try.func81, Try.ntmps81
    go_wp2_with (first | (go_at_call 123; refine (countsOf_any (P : Int) c h s a1 a2 n1 c1 n2 c2 xs ys _ h1 h2 (r1.below hb) (r2.below hb)).mono ?_; rintro e w2 ⟨B, rfl, q1, q2, hb2⟩; obtain ⟨x0, x1, x2, x3, xf, xl⟩ := (BV.below hb2).four; obtain ⟨y0, y1, yf, yl⟩ := (BB.below hb2).two; obtain ⟨z0, z1, zf, zl⟩ := (BR.below hb2).two; obtain ⟨t0, t1, t2, tf, tl⟩ := (Blk.new w2 #[.int .i64 (P : Int), fv 157 B, fv 158 B] 151).tri; obtain ⟨x0, x1, x2, x3, xf, xl⟩ := ((BV.below hb2).alloc (.cells #[.int .i64 (P : Int), fv 157 B, fv 158 B] 151)).four; obtain ⟨y0, y1, yf, yl⟩ := ((BB.below hb2).alloc (.cells #[.int .i64 (P : Int), fv 157 B, fv 158 B] 151)).two; obtain ⟨z0, z1, zf, zl⟩ := ((BR.below hb2).alloc (.cells #[.int .i64 (P : Int), fv 157 B, fv 158 B] 151)).two; have hal := (Below.refl w2.heap.size w2).alloc (Nat.le_refl _) (.cells #[.int .i64 (P : Int), fv 157 B, fv 158 B] 151)) | (go_at_call 126; refine (HA.out _ _ _ B (q1.below hal) (q2.below hal)).mono ?_; clear HA; rintro e w3 ⟨aA, kA, rfl, OA, hb3⟩; obtain ⟨x0, x1, x2, x3, xf, xl⟩ := (((BV.below hb2).below hal).below hb3).four; obtain ⟨t0, t1, t2, tf, tl⟩ := ((Blk.new w2 #[.int .i64 (P : Int), fv 157 B, fv 158 B] 151).below hb3).tri; obtain ⟨z0, z1, zf, zl⟩ := (((BR.below hb2).below hal).below hb3).two))
    go_ret
    exact ⟨rfl, chain hb (chain (chain hb2 hal) hb3)⟩
end Go.Proofs.Ytokjkcnjmfbfiaa
