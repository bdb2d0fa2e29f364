/- Texts of a proof, laid together. -/
import Derived.Test.YtnlclmlnpkncoaaGreatW36
import Derived.Test.YtnlclmlnpkncoaaGreatW35
import Derived.Test.YtnlclmlnpkncoaaGreatW19
import Derived.Test.YtnlclmlnpkncoaaGreatW11
namespace Go.Proofs.YtnlclmlnpkncoaaGreat
open Go.ChangeShapes Go.WideShapes Go.ChangeAt Go.RowKit
set_option linter.unusedVariables false
set_option linter.unusedSimpArgs false
set_option maxRecDepth 4000
theorem Gr.thenB {gR gC : Nat} {wB w w' : World} (h : Gr gR gC wB w) (k : Below wB.heap.size w w') : Gr gR gC wB w' :=
  ⟨k.os.trans h.os, k.tape.trans h.tape, k.output.trans h.output, Nat.le_trans h.size k.size, fun i hi n1 n2 => (k.block i hi).trans (h.block i hi n1 n2)⟩
theorem TmI.keepB {t : Tm} {base : Nat} {w w' : World} (h : TmI t w) (k : Below base w w') (h1 : t.g < base ∧ t.gk < base ∧ t.gv < base) : TmI t w' := by
  obtain ⟨s, n, ck, cv, b1, b2, r⟩ := h
  exact ⟨(k.block _ h1.1).trans s, n, ck, cv, (k.block _ h1.2.1).trans b1, (k.block _ h1.2.2).trans b2, r⟩
theorem VRow.grm {t : Tm} {w w' : World} {g : Nat} {vs : List Value} {y : TypeId} (hI : TmI t w) (h : VRow w g vs y) (hg : Gr t.gk t.gv w w') (n1 : y ≠ 4) (n2 : y ≠ 35) : VRow w' g vs y := by
  obtain ⟨cur, hB, r⟩ := h
  exact ⟨cur, hI.gr hB hg n1 n2, r⟩
theorem OwnX.below {w w' : World} {base : Nat} {v : Value} {l : List Rl} (h : OwnX w base v l) (k : Below w.heap.size w w') : OwnX w' base v l := h.by fun i _ h2 => k.block i h2
theorem OwnX.grm {w w' : World} {base gk gv : Nat} {v : Value} {l : List Rl} (h : OwnX w base v l) (hg : Gr gk gv w w') (h1 : gk < base) (h2 : gv < base) : OwnX w' base v l := h.by fun i q1 q2 => hg.block i q2 (by omega) (by omega)
theorem resS_I {n : Nat} {xs : List Int} {ra rb : Int} (h : PO n xs) (r1 : 1 ≤ rb) (r2 : rb ≤ ra) : resS xs ra rb = resI xs (ordersP ra rb) := by
  by_cases e : ra = rb
  · rw [res_same h.1 e r1, ordersP, if_pos e]
  · rw [res_diff h.1 (by omega) r1, ordersP, if_neg e]
theorem resS_facts {t : Tm} {xs ys : List Int} {ra rb : Int} (hx : t.In xs) (hx0 : xs.sum ≠ 0) (r1 : 1 ≤ rb) (r2 : rb ≤ ra) (r3 : ra ≤ 6) :
    0 < (resS xs ra rb).length ∧ (resS xs ra rb).length ≤ 1048576 ∧ ∀ z ∈ resS xs ra rb, t.In z ∧ pwT ys + pwT z < pwT xs + pwT ys := by
  have hx' : Ps t.p t.c t.h (t.S : Int) xs := hx
  obtain ⟨a1, a2, a3, -⟩ := hx'.po
  rw [resS_I a1 r1 r2]
  refine ⟨resI_ne a2 a3 a1 r1 r2 r3, by have := resI_len a2 a3 a1 r1 r2 r3; omega, fun z hz => ?_⟩
  obtain ⟨b1, b2, b3, b4⟩ := hx'.res (r := (ra, rb)) r1 r2 r3 z hz
  exact ⟨b1, by have := b4 hx0; omega⟩
theorem blA_none2 {T : Int} {f : List Int → Option Int} {own : List Int} {R : List Rl} {j : Nat} (h : blA T f own R j = none) : ∀ k, j ≤ k → blA T f own R k = none
  | 0, hk => by
    obtain rfl : j = 0 := by omega
    exact h
  | k + 1, hk => by
    by_cases e : j = k + 1
    · rw [← e]; exact h
    · rw [blA, blA_none2 h k (by omega)]
theorem Gr.setR {gR gC : Nat} {w w' : World} {o : Nat} {u : Value} (h : Gr gR gC w w') : Gr gR gC w (w'.setCell ⟨gR, o, none⟩ u) :=
  ⟨h.os, h.tape, h.output, by simpa using h.size, fun k hk n1 n2 => (Below.heap_setCell w' ⟨gR, o, none⟩ u k n1).trans (h.block k hk n1 n2)⟩
theorem Gr.setC {gR gC : Nat} {w w' : World} {o : Nat} {u : Value} (h : Gr gR gC w w') : Gr gR gC w (w'.setCell ⟨gC, o, none⟩ u) :=
  ⟨h.os, h.tape, h.output, by simpa using h.size, fun k hk n1 n2 => (Below.heap_setCell w' ⟨gC, o, none⟩ u k n2).trans (h.block k hk n1 n2)⟩
theorem blA_bounds {t : Tm} (hS : 1 ≤ t.S ∧ t.S ≤ 6) {xs ys : List Int} (hx : t.In xs) (hy : t.In ys) (hx0 : xs.sum ≠ 0) {j : Nat} {L : List Int} (hj : j ≤ (rollsTo t.S).length) (h : blA (tp t.S) (wc t.S ys) xs (rollsTo t.S) j = some L) : ∀ P ∈ L, 0 ≤ P ∧ P ≤ tp t.S := by
  have hx' : Ps t.p t.c t.h (t.S : Int) xs := hx
  have hy' : Ps t.p t.c t.h (t.S : Int) ys := hy
  have hres : ∀ r ∈ rollsTo t.S, 0 < (resI xs (ordersP r.1 r.2)).length ∧ ∀ z ∈ resI xs (ordersP r.1 r.2), Ps t.p t.c t.h (t.S : Int) z := fun r hr => by
    obtain ⟨r1, r2, r3⟩ := rolls_in hS hr
    obtain ⟨a1, a2, a3, -⟩ := hx'.po
    exact ⟨resI_ne a2 a3 a1 r1 r2 r3, fun z hz => (hx'.res r1 r2 r3 z hz).1⟩
  haveI inst : ∀ z, Decidable (Ps t.p t.c t.h (t.S : Int) z) := fun z => Classical.propDecidable _
  have hc : blA (tp t.S) (wc t.S ys) xs (rollsTo t.S) j = blA (tp t.S) (fun z => if Ps t.p t.c t.h (t.S : Int) z then wc t.S ys z else none) xs (rollsTo t.S) j := bl_congr (fun r hr z hz => by rw [if_pos ((hres r hr).2 z hz)]) j hj
  rw [hc] at h
  exact blA_in (fun z y hy2 => by
    split at hy2
    · rename_i hz
      obtain ⟨a1, a2, a3, -⟩ := hy'.po
      exact wc_in hS a2 a3 a1 hz.po.1 hy2
    · cases hy2) (fun r hr => (hres r hr).1) hj h
theorem isPs_valid {S : Nat} : ∀ (X : List Rl) (L : List Int), IsPs S X L → ∀ x ∈ X, xvB S x.1 x.2 = true
  | [], _, _, x, h => by cases h
  | y :: X, p :: L, k, x, h => by
    rcases List.mem_cons.1 h with rfl | h
    · exact k.1.1
    · exact isPs_valid X L k.2 x h
  | _ :: _, [], k, _, _ => by cases k
theorem mean_of {S : Nat} (hS : 1 ≤ S ∧ S ≤ 6) {X : List Rl} {L : List Int} (hX : IsPs S X L) (hL : ∀ P ∈ L, 0 ≤ P ∧ P ≤ tp S) (hl : L.length ≤ 36) :
    (mnP S (some L) = none ∧ mnX S ((rollsTo S).zip X) = none) ∨ ∃ P n d, mnP S (some L) = some P ∧ mnX S ((rollsTo S).zip X) = some (n, d) ∧ IsP S n d P := by
  obtain ⟨h1, h2⟩ := mn_parts hS (R := rollsTo S) hX hL hl
  unfold mnP
  dsimp only
  by_cases e : wsum ((rollsTo S).zip L) % ((S * S : Nat) : Int) = 0
  · obtain ⟨n, d, a, b⟩ := h1 e
    exact .inr ⟨_, n, d, by rw [if_pos e], a, b⟩
  · exact .inl ⟨by rw [if_neg e], h2 e⟩
theorem isPs_snoc {S : Nat} {n d P : Int} (h : IsP S n d P) : ∀ (X : List Rl) (L : List Int), IsPs S X L → IsPs S (X ++ [(n, d)]) (L ++ [P])
  | [], [], _ => ⟨h, trivial⟩
  | x :: X, p :: L, k => ⟨k.1, isPs_snoc h X L k.2⟩
  | [], _ :: _, k => by cases k
  | _ :: _, [], k => by cases k
theorem mean_last {S D : Nat} {n : Int} (hS : 1 ≤ S ∧ S ≤ 6) (h : xvB S n (D : Int) = true) :
    rdX S n (D + 1) = if n.tmod ((S * S : Nat) : Int) = 0 then some (n.tdiv ((S * S : Nat) : Int), 0) else if xvB S n ((D + 1 : Nat) : Int) = true then some (n, ((D + 1 : Nat) : Int)) else none := by
  have hB := base_range hS
  have hn := nn_range hS
  unfold xvB at h ⊢
  simp only [decide_eq_true_eq] at h ⊢
  obtain ⟨h1, h2, h3, h4, h5⟩ := h
  unfold rdX
  obtain ⟨B, hBe⟩ : ∃ B, S * S = B := ⟨_, rfl⟩
  rw [hBe] at hB h5 ⊢
  have key : n.tmod (B : Int) = 0 ↔ n.natAbs % B = 0 := by
    rw [← Int.dvd_iff_tmod_eq_zero, ← Int.dvd_natAbs, Int.natCast_dvd_natCast, Nat.dvd_iff_mod_eq_zero]
  have key2 : n % (B : Int) = 0 ↔ n.natAbs % B = 0 := by
    rw [← Int.dvd_iff_emod_eq_zero, ← Int.dvd_natAbs, Int.natCast_dvd_natCast, Nat.dvd_iff_mod_eq_zero]
  by_cases c : n.natAbs % B = 0
  · rw [if_pos (key.2 c)]
    have hD : D = 0 := by
      rcases h5 with h5 | h5
      · omega
      · exact absurd (key2.2 c) h5
    subst hD
    rw [rdN_go c]
    have hle : n.natAbs / B ≤ n.natAbs := Nat.div_le_self _ _
    rw [show rdN B (n.natAbs / B) 0 = (n.natAbs / B, 0) from rfl]
    dsimp only
    rw [if_pos ⟨by omega, by omega⟩]
    congr 2
    unfold sgI
    split
    · have e : n = -((n.natAbs : Nat) : Int) := by omega
      conv => rhs; rw [e, Int.neg_tdiv]
      rfl
    · have e : n = ((n.natAbs : Nat) : Int) := by omega
      conv => rhs; rw [e]
      rfl
  · rw [if_neg (fun q => c (key.1 q)), rdN_stop c]
    dsimp only
    have e : sgI n n.natAbs = n := by unfold sgI; split <;> omega
    rw [e]
    by_cases q : D + 1 < nn S
    · rw [if_pos ⟨q, by omega⟩, if_pos ⟨by omega, by omega, h3, h4, .inr (fun z => c (key2.1 z))⟩]
    · rw [if_neg (fun z => q z.1), if_neg (fun z => q (by omega))]
set_option maxRecDepth 8000 in
set_option maxHeartbeats 1000000 in
theorem l09Rolls_any (p c h : Int) (S : Nat) (w : World) (hS : S ≤ 6) :
    Calls Tryz.prog 40 #[.agg #[.int .i64 p, .int .i64 c, .int .i64 h, .int .i64 (S : Int)]] w (RollsGot (rollsTo S) w) := by
  have BV := Blk.new w #[.int .i64 p, .int .i64 c, .int .i64 h, .int .i64 (S : Int)] 25
  have hb : Below w.heap.size w (w.alloc (.cells #[.int .i64 p, .int .i64 c, .int .i64 h, .int .i64 (S : Int)] 25)) := (Below.refl _ _).alloc (Nat.le_refl _) _
  have hz0 : (w.alloc (.cells #[.int .i64 p, .int .i64 c, .int .i64 h, .int .i64 (S : Int)] 25)).heap.size = w.heap.size + 1 := by simp
  go_enter Tryz.func40, Tryz.ntmps40
  go_wp2_with fail
  generalize (w.alloc (.cells #[.int .i64 p, .int .i64 c, .int .i64 h, .int .i64 (S : Int)] 25)) = v0 at *
  have HZ0 := Lib.hid hz0
  have hz0a : w.heap.size + 1 ≤ v0.heap.size := by omega
  clear hz0
  go_loopg [3, 4, 5] S (fun m q3 q4 q5 wr => ∃ a : Nat, a ≤ S ∧ m = S - a ∧ q4 = .int .i64 ((a : Int) + 1) ∧ OwnR wr v0.heap.size q3 (rollsTo a) ∧ Below v0.heap.size v0 wr)
  case atStart => exact ⟨0, by omega, by omega, rfl, by have q := OwnR.start v0; rw [HZ0.out] at q ⊢; exact q, (Below.refl _ _).alloc (Nat.le_refl _) _⟩
  case round =>
    obtain ⟨a, ha, hm, rfl, hO, hbel⟩ := hrel
    obtain ⟨x0, x1, x2, x3, xf, xl⟩ := (BV.below hbel).four
    by_cases hlt : a < S
    · have hlt' : (a : Int) + 1 ≤ (S : Int) := by omega
      have ha6 : (a : Int) ≤ 6 := by omega
      go_wp2_with fail
      clear x0 x1 x2 x3 xf xl
      rw [← rowTo_zero] at hO
      go_loopg [3, 5] (a + 1) (fun m q3 q5 wr => ∃ j : Nat, j ≤ a + 1 ∧ m = a + 1 - j ∧ q5 = .int .i64 ((j : Int) + 1) ∧ OwnR wr v0.heap.size q3 (rowTo a j) ∧ Below v0.heap.size v0 wr)
      case atStart => exact ⟨0, by omega, by omega, rfl, hO, hbel⟩
      case round =>
        clear hO hbel
        obtain ⟨j, hj, hm2, rfl, hO, hbel⟩ := hrel
        have hle := rowTo_length a j
        have hle2 : a * a ≤ 6 * 6 := Nat.mul_le_mul (by omega) (by omega)
        by_cases hlj : j < a + 1
        · have hlj' : (j : Int) + 1 ≤ (a : Int) + 1 := by omega
          have hrs := rowTo_succ a j
          have hLl : (rowTo a j).length ≤ 1048576 := by omega
          obtain ⟨LL, hLL⟩ : ∃ z, rowTo a j = z := ⟨_, rfl⟩
          rw [hLL] at hO hrs hLl
          have HRS := Lib.hid hrs
          have hsz := hbel.size
          clear hrs hLL hle hle2
          go_wp2_with (at_builtin; go_loud (refine wp_pushR rfl _ _ rfl v0.heap.size _ LL rfl hO ((a : Int) + 1, (j : Int) + 1) rfl rfl hLl hsz ?_; intro v2 w6 hO2 hb6))
          go_roundg (a + 1 - (j + 1))
          case measure => omega
          case rel => exact ⟨j + 1, by omega, rfl, by go_num, by rw [HRS.out]; exact hO2, hbel.trans hb6⟩
        · obtain rfl : j = a + 1 := by omega
          rw [rowTo_full] at hO
          clear hle hle2
          go_wp2
          go_roundg (S - (a + 1))
          case measure => omega
          case rel => exact ⟨a + 1, by omega, rfl, by go_num, hO, hbel⟩
    · obtain rfl : a = S := by omega
      have hlt' : (a : Int) < (a : Int) + 1 := by omega
      obtain ⟨LL, hLL⟩ : ∃ z, rollsTo a = z := ⟨_, rfl⟩
      rw [hLL] at hO
      have HLL := Lib.hid hLL
      clear hLL
      obtain ⟨aR, kR, rfl⟩ := hO.form
      go_wp2
      go_ret
      exact ⟨aR, kR, by rw [HLL.out]; rfl, by rw [HLL.out]; exact hO.orl.mono hb.size (Nat.le_refl _), hb.trans (hbel.mono hb.size)⟩
end Go.Proofs.YtnlclmlnpkncoaaGreat
