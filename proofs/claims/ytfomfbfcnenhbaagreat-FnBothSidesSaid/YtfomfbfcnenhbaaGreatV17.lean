/- Texts of a proof, laid together. -/
import Derived.Test.YtfomfbfcnenhbaaGreatV16
import Derived.Test.YtfomfbfcnenhbaaGreatV12
import Derived.Test.YtfomfbfcnenhbaaGreatV01
import Derived.Laws.StructEq
import Derived.Lib.MinMax
import Derived.IntWalk
import Derived.Deep.QuietTactic
import Derived.Deep.CutRange
import Derived.Test.YtfomfbfcnenhbaaGreatV10
import Derived.BigQuiet
import Derived.Deep.LoopGhost
namespace Go.Proofs.YtfomfbfcnenhbaaGreat
set_option maxRecDepth 20000
set_option linter.unusedVariables false
set_option linter.unusedSimpArgs false
theorem rdX_of {S D : Nat} {N n d : Int} (h : rdX S N D = some (n, d)) : ∃ k : Nat, d = (k : Int) ∧ k ≤ D ∧ k < nn S ∧ N = n * ((scN S (D - k) : Nat) : Int) ∧ -1000000000000000000 ≤ n ∧ n ≤ 1000000000000000000 ∧ (k = 0 ∨ n % ((S * S : Nat) : Int) ≠ 0) := by
  unfold rdX at h
  have hs := rdN_spec (S * S) D N.natAbs
  have hl := rdN_le (S * S) D N.natAbs
  obtain ⟨m, hm⟩ : ∃ m, (rdN (S * S) N.natAbs D).1 = m := ⟨_, rfl⟩
  obtain ⟨k, hk⟩ : ∃ k, (rdN (S * S) N.natAbs D).2 = k := ⟨_, rfl⟩
  rw [hm, hk] at h hs
  rw [hk] at hl
  split at h
  · rename_i q
    simp only [Option.some.injEq, Prod.mk.injEq] at h
    obtain ⟨rfl, rfl⟩ := h
    refine ⟨k, rfl, hl.1, q.1, ?_, ?_, ?_, ?_⟩
    · have e : ((N.natAbs : Nat) : Int) = (m : Int) * ((scN S (D - k) : Nat) : Int) := by rw [← Int.natCast_mul]; exact congrArg _ hs.1
      unfold sgI
      by_cases c : N < 0
      · rw [if_pos c, Int.neg_mul, ← e]
        omega
      · rw [if_neg c, ← e]
        omega
    · unfold sgI; split <;> omega
    · unfold sgI; split <;> omega
    · rcases hs.2 with q2 | q2
      · exact .inl q2
      · refine .inr fun z => q2 ?_
        have e1 : ((m % (S * S) : Nat) : Int) = (m : Int) % ((S * S : Nat) : Int) := Int.natCast_emod _ _
        have z2 : (m : Int) % ((S * S : Nat) : Int) = 0 := by
          unfold sgI at z
          split at z
          · have := Int.dvd_of_emod_eq_zero z
            exact Int.emod_eq_zero_of_dvd (Int.dvd_neg.1 this)
          · exact z
        omega
  · cases h
theorem xvB_of {S D : Nat} {N n d : Int} (h : rdX S N D = some (n, d)) : xvB S n d = true := by
  obtain ⟨k, rfl, h1, h2, h3, h4, h5, h6⟩ := rdX_of h
  unfold xvB
  rw [decide_eq_true]
  exact ⟨by omega, by omega, h4, h5, by rcases h6 with q | q; exact .inl (by omega); exact .inr q⟩
theorem rollsTo_len2 : ∀ S : Nat, 2 * (rollsTo S).length = S * (S + 1)
  | 0 => by simp [rollsTo]
  | S + 1 => by
    have := rollsTo_len2 S
    rw [rollsTo, List.length_append, List.length_map, List.length_range, Nat.mul_add, this]
    simp only [Nat.mul_add, Nat.add_mul]
    omega
def wgR (r : Rl) : Int := if r.1 = r.2 then 1 else 2
def wgTo (l : List Rl) (k : Nat) : Int := ((l.take k).map wgR).sum
theorem wgTo_all (S : Nat) (h : S ≤ 6) : wgTo (rollsTo S) (rollsTo S).length = (S : Int) * S := by
  have : S = 0 ∨ S = 1 ∨ S = 2 ∨ S = 3 ∨ S = 4 ∨ S = 5 ∨ S = 6 := by omega
  rcases this with rfl | rfl | rfl | rfl | rfl | rfl | rfl <;> decide
end Go.Proofs.YtfomfbfcnenhbaaGreat
namespace Go.Proofs.YtfomfbfcnenhbaaGreat
open Go.ChangeShapes Go.WideShapes Go.ChangeAt Go.RowKit
set_option linter.unusedVariables false
set_option linter.unusedSimpArgs false
set_option maxRecDepth 4000
theorem isDouble_any (ra rb : Int) (w : World) :
    Calls Tryz.prog 139 #[.agg #[.int .i64 ra, .int .i64 rb]] w fun e w' => e = .returned (.bool (decide (ra = rb))) ∧ Below w.heap.size w w' := by
  have hb : Below w.heap.size w (w.alloc (.cells #[.int .i64 ra, .int .i64 rb] 44)) := (Below.refl _ _).alloc (Nat.le_refl _) _
  obtain ⟨x0, x1, xf, xl⟩ := (Blk.new w #[.int .i64 ra, .int .i64 rb] 44).two
  by_cases e : ra = rb
  · subst e
    rw [decide_eq_true rfl]
    go_enter Tryz.func139, Tryz.ntmps139
    go_wp2
    go_ret
    exact ⟨rfl, hb⟩
  · have f0 : (ra == rb) = false := by rw [beq_eq_false_iff_ne]; exact e
    have f1 : (rb == ra) = false := by rw [beq_eq_false_iff_ne]; exact fun q => e q.symm
    rw [decide_eq_false e]
    go_enter Tryz.func139, Tryz.ntmps139
    go_wp2
    go_ret
    exact ⟨rfl, hb⟩
theorem implWeight_any (ra rb : Int) (w : World) :
    Calls Tryz.prog 132 #[.agg #[.int .i64 ra, .int .i64 rb]] w fun e w' => e = .returned (.int .i64 (if ra = rb then 1 else 2)) ∧ Below w.heap.size w w' := by
  have hb : Below w.heap.size w (w.alloc (.cells #[.int .i64 ra, .int .i64 rb] 44)) := (Below.refl _ _).alloc (Nat.le_refl _) _
  obtain ⟨x0, x1, xf, xl⟩ := (Blk.new w #[.int .i64 ra, .int .i64 rb] 44).two
  have hd := fun W => isDouble_any ra rb W
  by_cases e : ra = rb
  · rw [decide_eq_true e] at hd
    rw [if_pos e]
    have HD := Lib.hid hd
    clear hd e
    go_enter Tryz.func132, Tryz.ntmps132
    go_wp2_with (go_at_call 139; refine (HD.out _).mono ?_; rintro e w1 ⟨rfl, hb1⟩)
    go_ret
    exact ⟨rfl, chain hb hb1⟩
  · rw [decide_eq_false e] at hd
    rw [if_neg e]
    have HD := Lib.hid hd
    clear hd e
    go_enter Tryz.func132, Tryz.ntmps132
    go_wp2_with (go_at_call 139; refine (HD.out _).mono ?_; rintro e w1 ⟨rfl, hb1⟩)
    go_ret
    exact ⟨rfl, chain hb hb1⟩
theorem VRow.far2 {w : World} {g B : Nat} {vs : List Value} {t : TypeId} (h : VRow w g vs t) (hne : g ≠ B) (x y : Value) : VRow ((w.setCell ⟨B, 0, none⟩ x).setCell ⟨B, 1, none⟩ y) g vs t :=
  (h.other (g := B) (o := 0) (v := x) hne).other (g := B) (o := 1) (v := y) hne
theorem VRow.alloc {w : World} {g : Nat} {vs : List Value} {t : TypeId} (h : VRow w g vs t) (o : Obj) : VRow (w.alloc o) g vs t := h.below ((Below.refl _ _).alloc (Nat.le_refl _) o)
theorem drop_at {α : Type} {l : List α} {j : Nat} {z : α} (h : l[j]? = some z) : l.drop j = z :: l.drop (j + 1) := by
  obtain ⟨hl, e⟩ := List.getElem?_eq_some_iff.1 h
  rw [List.drop_eq_getElem_cons hl, e]
def RIn (w : World) (a : Option Addr) (l : List Rl) : Prop := (a = none ∧ l = []) ∨ ∃ g, a = some ⟨g, 0, none⟩ ∧ RRow w g l
theorem RIn.below {w w' : World} {a : Option Addr} {l : List Rl} (h : RIn w a l) (hb : Below w.heap.size w w') : RIn w' a l := by
  rcases h with h | ⟨g, e, r⟩
  · exact .inl h
  · exact .inr ⟨g, e, r.below hb⟩
theorem RIn.row {w : World} {a : Option Addr} {l : List Rl} (h : RIn w a l) {k : Nat} (hk : k < l.length) : ∃ g, a = some ⟨g, 0, none⟩ ∧ RRow w g l := by
  rcases h with ⟨_, rfl⟩ | ⟨g, e, r⟩
  · simp at hk
  · exact ⟨g, e, r⟩
theorem ORl.rin {lo hi : Nat} {w : World} {a : Option Addr} {l : List Rl} (h : ORl lo hi w a l) : RIn w a l := by
  rcases h with h | ⟨g, e, _, _, r⟩
  · exact .inl h
  · exact .inr ⟨g, e, r⟩
def wgt (r : Rl) : Int := if r.1 = r.2 then 1 else 2
def mnSum (S : Nat) : List (Rl × Rl) → Int → Nat → Option (Int × Int)
  | [], a, d => some (a, (d : Int))
  | q :: l, a, d => match rdX S (q.2.1 * wgt q.1) q.2.2.toNat with
    | none => none
    | some y => match adX S a d y.1 y.2.toNat with
      | none => none
      | some z => mnSum S l z.1 z.2.toNat
def mnX (S : Nat) (l : List (Rl × Rl)) : Option (Int × Int) := match mnSum S l 0 0 with
  | none => none
  | some a => rdX S a.1 (a.2.toNat + 1)
theorem wgt_in (r : Rl) : 1 ≤ wgt r ∧ wgt r ≤ 2 := by unfold wgt; split <;> omega
theorem mnSum_cons {S : Nat} {r x : Rl} {l : List (Rl × Rl)} {a : Int} {d : Nat} : mnSum S ((r, x) :: l) a d = match rdX S (x.1 * wgt r) x.2.toNat with
    | none => none
    | some y => match adX S a d y.1 y.2.toNat with
      | none => none
      | some z => mnSum S l z.1 z.2.toNat := rfl
theorem adX_valid {S i j : Nat} {a b n d : Int} (h : adX S a i b j = some (n, d)) : xvB S n d = true := by
  unfold adX at h
  split at h <;> split at h
  · cases h
  · exact xvB_of h
  · cases h
  · exact xvB_of h
theorem ScM.look {w : World} {b S n : Nat} (h : ScM w b S n) {j : Int} (hj : -9223372036854775808 ≤ j ∧ j ≤ 9223372036854775807) :
    (Instr.lookup 80 (.map (some b)) (.int .i64 j) false).run Tryz.prog w = .ok (.int .i64 (scA S n j)) w := by
  obtain ⟨c, hrun, hat, _⟩ := World.ownsMap.lookup_int h scKey scMap Tryz.underlying2 (scZero w) (scKeyOf hj)
  rw [scD_at] at hat
  have e : scA S n j = c := by simpa using hat
  rw [e]
  exact hrun
theorem scA_is {S : Nat} {xd : Int} (h : 0 ≤ xd ∧ xd < ((nn S : Nat) : Int)) : scA S (nn S) xd = ((scN S xd.toNat : Nat) : Int) := by
  unfold scA
  rw [if_pos h]
theorem split_neg {x C : Int} (hC : 0 < C) (h : x.tmod C < 0) : x / C = x.tdiv C - 1 ∧ x % C = x.tmod C + C := by
  have h1 := Int.mul_tdiv_add_tmod x C
  have h2 : -C < x.tmod C := by
    have := Int.lt_tmod_of_pos x hC
    omega
  exact (Int.ediv_emod_unique hC).2 ⟨by rw [Int.mul_sub, Int.mul_one]; omega, by omega, by omega⟩
theorem split_pos {x C : Int} (hC : 0 < C) (h : ¬ x.tmod C < 0) : x / C = x.tdiv C ∧ x % C = x.tmod C := by
  have h1 := Int.mul_tdiv_add_tmod x C
  have h2 : x.tmod C < C := Int.tmod_lt_of_pos x hC
  exact (Int.ediv_emod_unique hC).2 ⟨by omega, by omega, h2⟩
def sg3 (a b : Int) : Int := if a < b then -1 else if b < a then 1 else 0
theorem isNaN_any (a : Int) (w : World) : Calls Tryz.prog 164 #[.int .i64 a] w fun e w' => e = .returned (.bool false) ∧ w = w' := by
  have f0 : (a != a) = false := by simp
  go_enter Tryz.func164, Tryz.ntmps164
  go_wp2
  go_ret
  exact ⟨rfl, rfl⟩
theorem compare64_any (a b : Int) (w : World) : Calls Tryz.prog 152 #[.int .i64 a, .int .i64 b] w fun e w' => e = .returned (.int .i64 (sg3 a b)) ∧ w = w' := by
  unfold sg3
  by_cases h1 : a < b
  · rw [if_pos h1]
    go_enter Tryz.func152, Tryz.ntmps152
    go_wp2_with (go_at_call 164; refine (isNaN_any _ _).mono ?_; rintro e w1 ⟨rfl, rfl⟩)
    go_ret
    exact ⟨rfl, rfl⟩
  · rw [if_neg h1]
    by_cases h2 : b < a
    · rw [if_pos h2]
      go_enter Tryz.func152, Tryz.ntmps152
      go_wp2_with (go_at_call 164; refine (isNaN_any _ _).mono ?_; rintro e w1 ⟨rfl, rfl⟩)
      go_ret
      exact ⟨rfl, rfl⟩
    · rw [if_neg h2]
      go_enter Tryz.func152, Tryz.ntmps152
      go_wp2_with (go_at_call 164; refine (isNaN_any _ _).mono ?_; rintro e w1 ⟨rfl, rfl⟩)
      go_ret
      exact ⟨rfl, rfl⟩
def cmV (S : Nat) (xn xd yn yd : Int) : Int :=
  if sg3 (xn / ((scN S xd.toNat : Nat) : Int)) (yn / ((scN S yd.toNat : Nat) : Int)) ≠ 0 then sg3 (xn / ((scN S xd.toNat : Nat) : Int)) (yn / ((scN S yd.toNat : Nat) : Int))
  else sg3 (xn % ((scN S xd.toNat : Nat) : Int) * ((scN S (max xd yd - xd).toNat : Nat) : Int)) (yn % ((scN S yd.toNat : Nat) : Int) * ((scN S (max xd yd - yd).toNat : Nat) : Int))
end Go.Proofs.YtfomfbfcnenhbaaGreat
