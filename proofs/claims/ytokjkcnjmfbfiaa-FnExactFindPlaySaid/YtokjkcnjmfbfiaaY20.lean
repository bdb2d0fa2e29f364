/- Contracts of the model on all plays of a roll with their code, and on forced plays. -/
import Derived.Test.YtokjkcnjmfbfiaaY17
import Derived.Test.YtokjkcnjmfbfiaaY19
namespace Go.Proofs.Ytokjkcnjmfbfiaa
open Go.ChangeShapes Go.WideShapes Go.ChangeAt Go.RowKit
set_option linter.unusedVariables false
set_option linter.unusedSimpArgs false
set_option maxRecDepth 4000

/-- The code of all plays of a roll, and the plays. -/
def apC (p c h s : Int) (xs ys : List Int) (ra rb : Int) : Int := if codeB p c h s xs ys ra rb = 0 then (if allOk p.toNat h xs ys ra rb = true then 0 else 3) else codeB p c h s xs ys ra rb
def apL (p c h s : Int) (xs ys : List Int) (ra rb : Int) : List Ply := if codeB p c h s xs ys ra rb = 0 then (if allOk p.toNat h xs ys ra rb = true then allP p.toNat h xs ys ra rb else []) else []
/-- Plays have been made and are handed back, beside a code. -/
def PlaysGot2 (ps : List Ply) (r : Int) (w : World) (e : Ending) (w' : World) : Prop :=
  ∃ (a : Option Addr) (k : Nat) (l : List PP), e = .returned (.tuple #[.slice a l.length k, .int .i64 r]) ∧ l.map Prod.snd = ps ∧ OPl w.heap.size w'.heap.size w' a l ∧ PAll w.heap.size w'.heap.size w' l ∧ Below w.heap.size w w'
theorem codeB_zero {p c h s : Int} {xs ys : List Int} {ra rb : Int} (g : codeB p c h s xs ys ra rb = 0) : isB p c h s xs ys = true ∧ rlB s ra rb = true := by
  unfold codeB at g
  split at g
  · rename_i h1
    split at g
    · rename_i h2
      exact ⟨h1, h2⟩
    · omega
  · omega
set_option maxRecDepth 8000 in
set_option maxHeartbeats 1000000 in
theorem specAllPlays_any (ra rb : Int) (p c h s : Int) (a1 a2 : Option Addr) (n1 n2 c1 c2 : Nat) (xs ys : List Int) (w : World) (h1 : xs.length = n1) (h2 : ys.length = n2) (l1 : n1 ≤ 1048576) (l2 : n2 ≤ 1048576) (r1 : IRow w a1 xs) (r2 : IRow w a2 ys) :
    Calls Try.prog 22 #[.agg #[.int .i64 p, .int .i64 c, .int .i64 h, .int .i64 s], .agg #[.slice a1 n1 c1, .slice a2 n2 c2], .agg #[.int .i64 ra, .int .i64 rb]] w (PlaysGot2 (apL p c h s xs ys ra rb) (apC p c h s xs ys ra rb) w) := by
  have hC := fun W (q1 : IRow W a1 xs) (q2 : IRow W a2 ys) => l05Code_any ra rb p c h s a1 a2 n1 n2 c1 c2 xs ys W h1 h2 l1 l2 q1 q2
  unfold apL apC
  by_cases g0 : codeB p c h s xs ys ra rb = 0
  · obtain ⟨g, e⟩ := codeB_zero g0
    rw [if_pos g0, if_pos g0]
    rw [g0] at hC
    obtain ⟨p0, p1, k0, k1, k2, k3, N1, N2, hx, hy, s0, s1, s2, s3⟩ := isB_parts g
    clear hx hy
    obtain ⟨P, rfl⟩ := Int.eq_ofNat_of_zero_le (by omega : 0 ≤ p)
    rw [show ((P : Int)).toNat = P by simp]
    obtain ⟨e1, e2⟩ := rlB_two e
    have hU := fun W (q1 : IRow W a1 xs) (q2 : IRow W a2 ys) => l05All_any P c h s ra rb a1 a2 n1 n2 c1 c2 xs ys W h1 h2 q1 q2 g e1 e2
    unfold AllGot at hU
    obtain ⟨AO, hAO⟩ : ∃ z, allOk P h xs ys ra rb = z := ⟨_, rfl⟩
    obtain ⟨AA, hAA⟩ : ∃ z, allP P h xs ys ra rb = z := ⟨_, rfl⟩
    rw [hAO, hAA] at hU
    rw [hAO, hAA]
    have HC := Lib.hid hC
    have HU := Lib.hid hU
    clear hC hU hAO hAA g e e1 e2 g0
    obtain ⟨BV, BB, BR, hb, hz⟩ := three_new w #[.int .i64 (P : Int), .int .i64 c, .int .i64 h, .int .i64 s] #[.slice a1 n1 c1, .slice a2 n2 c2] #[.int .i64 ra, .int .i64 rb] 32 34 36
    clear hz
    obtain ⟨x0, x1, x2, x3, xf, xl⟩ := BV.four
    obtain ⟨y0, y1, yf, yl⟩ := BB.two
    obtain ⟨z0, z1, zf, zl⟩ := BR.two
    cases AO with
    | true =>
      rw [if_pos rfl, if_pos rfl]
      go_enter Try.func22, Try.ntmps22
      go_wp2_with (first | (go_at_call 62; refine (HC.out _ (r1.below hb) (r2.below hb)).mono ?_; clear HC; rintro e w1 ⟨rfl, hb1⟩; obtain ⟨x0, x1, x2, x3, xf, xl⟩ := (BV.below hb1).four; obtain ⟨y0, y1, yf, yl⟩ := (BB.below hb1).two; obtain ⟨z0, z1, zf, zl⟩ := (BR.below hb1).two) | (go_at_call 68; refine (HU.out _ (r1.below (chain hb hb1)) (r2.below (chain hb hb1))).mono ?_; rintro e w2 ⟨aL, kL, L, rfl, hLm, hLO, hLA, hb2⟩))
      go_ret2
      exact ⟨aL, kL, L, rfl, hLm, hLO.mono (chain hb hb1).size (Nat.le_refl _), hLA.mono (chain hb hb1).size (Nat.le_refl _), chain (chain hb hb1) hb2⟩
    | false =>
      rw [if_neg (by simp), if_neg (by simp)]
      go_enter Try.func22, Try.ntmps22
      go_wp2_with (first | (go_at_call 62; refine (HC.out _ (r1.below hb) (r2.below hb)).mono ?_; clear HC; rintro e w1 ⟨rfl, hb1⟩; obtain ⟨x0, x1, x2, x3, xf, xl⟩ := (BV.below hb1).four; obtain ⟨y0, y1, yf, yl⟩ := (BB.below hb1).two; obtain ⟨z0, z1, zf, zl⟩ := (BR.below hb1).two) | (go_at_call 68; refine (HU.out _ (r1.below (chain hb hb1)) (r2.below (chain hb hb1))).mono ?_; rintro e w2 ⟨aL, kL, L, rfl, hLm, hLO, hLA, hb2⟩))
      go_ret2
      exact ⟨some ⟨w2.heap.size, 0, none⟩, 0, [], rfl, rfl, .inr ⟨w2.heap.size, rfl, (chain (chain hb hb1) hb2).size, by simp, #[], Blk.new w2 #[] 94, by simp [plsC], rfl⟩, PAll.nil _ _ _, (chain (chain hb hb1) hb2).alloc (chain (chain hb hb1) hb2).size _⟩
  · rw [if_neg g0, if_neg g0]
    obtain ⟨q, hq⟩ : ∃ q, codeB p c h s xs ys ra rb = q := ⟨_, rfl⟩
    rw [hq] at hC g0 ⊢
    have f0 : (q != 0) = true := by rw [bne_iff_ne]; exact g0
    have HC := Lib.hid hC
    clear hC hq
    obtain ⟨BV, BB, BR, hb, hz⟩ := three_new w #[.int .i64 p, .int .i64 c, .int .i64 h, .int .i64 s] #[.slice a1 n1 c1, .slice a2 n2 c2] #[.int .i64 ra, .int .i64 rb] 32 34 36
    clear hz
    obtain ⟨x0, x1, x2, x3, xf, xl⟩ := BV.four
    obtain ⟨y0, y1, yf, yl⟩ := BB.two
    obtain ⟨z0, z1, zf, zl⟩ := BR.two
    go_enter Try.func22, Try.ntmps22
    go_wp2_with (first | (go_at_call 62; refine (HC.out _ (r1.below hb) (r2.below hb)).mono ?_; clear HC; rintro e w1 ⟨rfl, hb1⟩; obtain ⟨x0, x1, x2, x3, xf, xl⟩ := (BV.below hb1).four; obtain ⟨y0, y1, yf, yl⟩ := (BB.below hb1).two; obtain ⟨z0, z1, zf, zl⟩ := (BR.below hb1).two))
    go_ret2
    exact ⟨some ⟨w1.heap.size, 0, none⟩, 0, [], rfl, rfl, .inr ⟨w1.heap.size, rfl, (chain hb hb1).size, by simp, #[], Blk.new w1 #[] 94, by simp [plsC], rfl⟩, PAll.nil _ _ _, (chain hb hb1).alloc (chain hb hb1).size _⟩
/-- What is told of a forced play. -/
def ifV (p c h s : Int) (xs ys : List Int) (ra rb : Int) : Value := .tuple #[.bool (decide ((apL p c h s xs ys ra rb).length = 1)), .int .i64 (apC p c h s xs ys ra rb)]
set_option maxRecDepth 8000 in
set_option maxHeartbeats 1000000 in
theorem specIsForced_any (ra rb : Int) (p c h s : Int) (a1 a2 : Option Addr) (n1 n2 c1 c2 : Nat) (xs ys : List Int) (w : World) (h1 : xs.length = n1) (h2 : ys.length = n2) (l1 : n1 ≤ 1048576) (l2 : n2 ≤ 1048576) (r1 : IRow w a1 xs) (r2 : IRow w a2 ys) :
    Calls Try.prog 30 #[.agg #[.int .i64 p, .int .i64 c, .int .i64 h, .int .i64 s], .agg #[.slice a1 n1 c1, .slice a2 n2 c2], .agg #[.int .i64 ra, .int .i64 rb]] w fun e w' => e = .returned (ifV p c h s xs ys ra rb) ∧ Below w.heap.size w w' := by
  have hA := fun W (q1 : IRow W a1 xs) (q2 : IRow W a2 ys) => specAllPlays_any ra rb p c h s a1 a2 n1 n2 c1 c2 xs ys W h1 h2 l1 l2 q1 q2
  unfold ifV
  unfold PlaysGot2 at hA
  obtain ⟨AC, hAC⟩ : ∃ z, apC p c h s xs ys ra rb = z := ⟨_, rfl⟩
  obtain ⟨AA, hAA⟩ : ∃ z, apL p c h s xs ys ra rb = z := ⟨_, rfl⟩
  rw [hAC, hAA] at hA
  rw [hAC, hAA]
  have HA := Lib.hid hA
  clear hA hAC hAA
  obtain ⟨BV, BB, BR, hb, hz⟩ := three_new w #[.int .i64 p, .int .i64 c, .int .i64 h, .int .i64 s] #[.slice a1 n1 c1, .slice a2 n2 c2] #[.int .i64 ra, .int .i64 rb] 32 34 36
  clear hz
  obtain ⟨x0, x1, x2, x3, xf, xl⟩ := BV.four
  obtain ⟨y0, y1, yf, yl⟩ := BB.two
  obtain ⟨z0, z1, zf, zl⟩ := BR.two
  by_cases e1 : AA.length = 1
  · rw [decide_eq_true e1]
    go_enter Try.func30, Try.ntmps30
    go_wp2_with fail
    refine (HA.out _ (r1.below hb) (r2.below hb)).mono ?_
    rintro e w1 ⟨aL, kL, L, rfl, hLm, -, -, hb1⟩
    have hl : L.length = 1 := by rw [← e1, ← hLm, List.length_map]
    have f0 : ((L.length : Int) == 1) = true := by rw [beq_iff_eq]; omega
    clear hl hLm e1
    go_wp2
    go_ret2
    exact ⟨rfl, chain hb hb1⟩
  · rw [decide_eq_false e1]
    go_enter Try.func30, Try.ntmps30
    go_wp2_with fail
    refine (HA.out _ (r1.below hb) (r2.below hb)).mono ?_
    rintro e w1 ⟨aL, kL, L, rfl, hLm, -, -, hb1⟩
    have hl : L.length ≠ 1 := fun q => e1 (by rw [← q, ← hLm, List.length_map])
    have f0 : ((L.length : Int) == 1) = false := by rw [beq_eq_false_iff_ne]; omega
    clear hl hLm e1
    go_wp2
    go_ret2
    exact ⟨rfl, chain hb hb1⟩
end Go.Proofs.Ytokjkcnjmfbfiaa
