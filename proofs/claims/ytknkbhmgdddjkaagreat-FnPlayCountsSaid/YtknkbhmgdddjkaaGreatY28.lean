/- Texts of a proof, laid together: Contracts of the program and of its model on rolls: whether a pair of faces is one, all rolls, their weights and numbers. How a board that came in is read: two rows of int64. -/
import Derived.Test.YtknkbhmgdddjkaaGreatY14
import Derived.Test.YtknkbhmgdddjkaaGreatY13
import Derived.Test.YtknkbhmgdddjkaaGreatY01
namespace Go.Proofs.YtknkbhmgdddjkaaGreat
open Go.ChangeShapes Go.WideShapes Go.ChangeAt Go.RowKit
set_option linter.unusedVariables false
set_option linter.unusedSimpArgs false
set_option maxRecDepth 4000

/-- A roll of a valid variant. -/
def ruB (p c h s ra rb : Int) : Bool := vB p c h s && rlB s ra rb
def arL (p c h s : Int) : List Rl := if vB p c h s = true then rollsTo s.toNat else []
def rwI (p c h s ra rb : Int) : Int := if ruB p c h s ra rb = true then (if ra = rb then 1 else 2) else 0
def rnI (p c h s ra rb : Int) : Int := if ruB p c h s ra rb = true then ra * (ra - 1) / 2 + rb - 1 else -1
theorem rlB_iff7 (s ra rb : Int) : rlB s ra rb = true ↔ 1 ≤ rb ∧ rb ≤ ra ∧ ra ≤ s := by
  unfold rlB inB
  simp only [Bool.and_eq_true, decide_eq_true_eq]
  omega
theorem vB_sides {p c h s : Int} (g : vB p c h s = true) : 1 ≤ s ∧ s ≤ 6 := by
  have := vB_iff.1 g
  omega
set_option maxRecDepth 8000 in
theorem implIsRoll_any (p c h s ra rb : Int) (w : World) :
    Calls Tryz.prog 30 #[.agg #[.int .i64 p, .int .i64 c, .int .i64 h, .int .i64 s], .agg #[.int .i64 ra, .int .i64 rb]] w fun e w' => e = .returned (.bool (ruB p c h s ra rb)) ∧ Below w.heap.size w w' := by
  obtain ⟨BV, BR, hb, hz⟩ := two_new w #[.int .i64 p, .int .i64 c, .int .i64 h, .int .i64 s] #[.int .i64 ra, .int .i64 rb] 25 40
  clear hz
  obtain ⟨x0, x1, x2, x3, xf, xl⟩ := BV.four
  obtain ⟨z0, z1, zf, zl⟩ := BR.two
  have hv := fun W => valid_any p c h s W
  have hr := fun W => hasRoll_any p c h s ra rb W
  unfold ruB
  obtain ⟨R, hR⟩ : ∃ z, rlB s ra rb = z := ⟨_, rfl⟩
  rw [hR] at hr ⊢
  have HR := Lib.hid hr
  clear hr hR
  cases g : vB p c h s with
  | true =>
    rw [g] at hv
    have HV := Lib.hid hv
    clear hv g
    rw [Bool.true_and]
    go_enter Tryz.func30, Tryz.ntmps30
    go_wp2_with (first | (go_at_call 24; refine (HV.out _).mono ?_; clear HV; rintro e w1 ⟨rfl, hb1⟩; obtain ⟨x0, x1, x2, x3, xf, xl⟩ := (BV.below hb1).four; obtain ⟨z0, z1, zf, zl⟩ := (BR.below hb1).two) | (go_at_call 52; refine (HR.out _).mono ?_; rintro e w2 ⟨rfl, hb2⟩))
    go_ret
    exact ⟨rfl, chain (chain hb hb1) hb2⟩
  | false =>
    rw [g] at hv
    have HV := Lib.hid hv
    clear hv g
    rw [Bool.false_and]
    go_enter Tryz.func30, Tryz.ntmps30
    go_wp2_with (go_at_call 24; refine (HV.out _).mono ?_; clear HV; rintro e w1 ⟨rfl, hb1⟩; obtain ⟨x0, x1, x2, x3, xf, xl⟩ := (BV.below hb1).four; obtain ⟨z0, z1, zf, zl⟩ := (BR.below hb1).two)
    go_ret
    exact ⟨rfl, chain hb hb1⟩
set_option maxRecDepth 8000 in
theorem allRolls_any (p c h s : Int) (w : World) : Calls Tryz.prog 9 #[.agg #[.int .i64 p, .int .i64 c, .int .i64 h, .int .i64 s]] w (RollsGot (arL p c h s) w) := by
  have BV := Blk.new w #[.int .i64 p, .int .i64 c, .int .i64 h, .int .i64 s] 25
  have hb : Below w.heap.size w (w.alloc (.cells #[.int .i64 p, .int .i64 c, .int .i64 h, .int .i64 s] 25)) := (Below.refl _ _).alloc (Nat.le_refl _) _
  obtain ⟨x0, x1, x2, x3, xf, xl⟩ := BV.four
  have hv := fun W => valid_any p c h s W
  unfold arL
  cases g : vB p c h s with
  | true =>
    have hs := vB_sides g
    rw [g] at hv
    rw [if_pos rfl]
    obtain ⟨S, rfl⟩ := Int.eq_ofNat_of_zero_le (by omega : 0 ≤ s)
    rw [show ((S : Int)).toNat = S by simp]
    have hl := fun W => implRolls_any p c h S W (by omega)
    have HV := Lib.hid hv
    have HL := Lib.hid hl
    clear hv g hl hs
    go_enter Tryz.func9, Tryz.ntmps9
    go_wp2_with (first | (go_at_call 24; refine (HV.out _).mono ?_; clear HV; rintro e w1 ⟨rfl, hb1⟩; obtain ⟨x0, x1, x2, x3, xf, xl⟩ := (BV.below hb1).four) | (go_at_call 19; refine (HL.out _).mono ?_; clear HL; rintro e w2 ⟨a, k, rfl, hO, hb2⟩))
    go_ret
    exact ⟨a, k, rfl, hO.mono (chain hb hb1).size (Nat.le_refl _), chain (chain hb hb1) hb2⟩
  | false =>
    rw [g] at hv
    rw [if_neg (by simp)]
    have HV := Lib.hid hv
    clear hv g
    go_enter Tryz.func9, Tryz.ntmps9
    go_wp2_with (go_at_call 24; refine (HV.out _).mono ?_; clear HV; rintro e w1 ⟨rfl, hb1⟩)
    go_ret
    exact ⟨none, 0, rfl, .inl ⟨rfl, rfl⟩, chain hb hb1⟩
set_option maxRecDepth 8000 in
theorem rollWeight_any (p c h s ra rb : Int) (w : World) :
    Calls Tryz.prog 12 #[.agg #[.int .i64 p, .int .i64 c, .int .i64 h, .int .i64 s], .agg #[.int .i64 ra, .int .i64 rb]] w fun e w' => e = .returned (.int .i64 (rwI p c h s ra rb)) ∧ Below w.heap.size w w' := by
  obtain ⟨BV, BR, hb, hz⟩ := two_new w #[.int .i64 p, .int .i64 c, .int .i64 h, .int .i64 s] #[.int .i64 ra, .int .i64 rb] 25 40
  clear hz
  obtain ⟨x0, x1, x2, x3, xf, xl⟩ := BV.four
  obtain ⟨z0, z1, zf, zl⟩ := BR.two
  have hi := fun W => implIsRoll_any p c h s ra rb W
  unfold rwI
  cases g : ruB p c h s ra rb with
  | true =>
    rw [g] at hi
    rw [if_pos rfl]
    have hw := fun W => implWeight_any ra rb W
    obtain ⟨R, hR⟩ : ∃ z : Int, (if ra = rb then (1 : Int) else 2) = z := ⟨_, rfl⟩
    rw [hR] at hw ⊢
    have HW := Lib.hid hw
    have HI := Lib.hid hi
    clear hi hw hR g
    go_enter Tryz.func12, Tryz.ntmps12
    go_wp2_with (first | (go_at_call 30; refine (HI.out _).mono ?_; clear HI; rintro e w1 ⟨rfl, hb1⟩; obtain ⟨x0, x1, x2, x3, xf, xl⟩ := (BV.below hb1).four; obtain ⟨z0, z1, zf, zl⟩ := (BR.below hb1).two) | (go_at_call 26; refine (HW.out _).mono ?_; rintro e w2 ⟨rfl, hb2⟩))
    go_ret
    exact ⟨rfl, chain (chain hb hb1) hb2⟩
  | false =>
    rw [g] at hi
    rw [if_neg (by simp)]
    have HI := Lib.hid hi
    clear hi g
    go_enter Tryz.func12, Tryz.ntmps12
    go_wp2_with (go_at_call 30; refine (HI.out _).mono ?_; clear HI; rintro e w1 ⟨rfl, hb1⟩; obtain ⟨x0, x1, x2, x3, xf, xl⟩ := (BV.below hb1).four; obtain ⟨z0, z1, zf, zl⟩ := (BR.below hb1).two)
    go_ret
    exact ⟨rfl, chain hb hb1⟩
end Go.Proofs.YtknkbhmgdddjkaaGreat
namespace Go.Proofs.YtknkbhmgdddjkaaGreat
open Go.ChangeShapes Go.WideShapes Go.ChangeAt Go.RowKit
set_option linter.unusedVariables false
set_option linter.unusedSimpArgs false

theorem open_row {H : Type} {enc : TypeId × Value → H} {w : World} {base : Nat} {spare : Nat → Bool} {held : Bool} {fuel : Nat} {v : Value} {x : DataW H × List MemPlace}
    (h : DataW.trod enc Tryz.prog w base spare held fuel 26 [v] = some x) :
    ∃ (a : Option Addr) (n cap : Nat) (xs : List Int), v = .slice a n cap ∧ xs.length = n ∧ n ≤ 9223372036854775807 ∧ IRow w a xs ∧ ∀ y ∈ xs, (Lit.int .i64 y).wf = true := by
  rcases open_ints Tryz.underlying26 Tryz.underlying2 (by kernel_rfl) h with ⟨hcs, _⟩ | ⟨x, l, c, zs, hcs, _, hl, hm, hz, _, hcell, hwz⟩
  · simp at hcs
    exact ⟨none, 0, 0, [], hcs, rfl, by omega, IRow.nil _ _, by simp⟩
  · simp at hcs
    have hlz : l ≤ zs.length := by rw [hz]; split <;> omega
    refine ⟨some x, l, c, zs.take l, hcs, by simp; omega, by unfold maxLen at hm; omega, ?_, fun y hy => hwz y (List.mem_of_mem_take hy)⟩
    intro i hi
    have hi2 : i < l := by simp at hi; omega
    have hc := hcell i (by omega)
    obtain ⟨b, o, spot⟩ := x
    have hspot : spot = none := by
      have hc0 := hcell 0 (by omega)
      simpa [Addr.add] using World.cell?_spot hc0
    subst hspot
    refine ⟨b, o, rfl, ?_⟩
    rw [show (⟨b, o, none⟩ : Addr).add i = ⟨b, o + i, none⟩ from by unfold Addr.add; split <;> simp_all] at hc
    rw [hc]
    simp [List.getD, hi2]
end Go.Proofs.YtknkbhmgdddjkaaGreat
