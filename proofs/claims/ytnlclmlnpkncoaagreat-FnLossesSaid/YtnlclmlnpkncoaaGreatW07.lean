/- Texts of a proof, laid together. -/
import Derived.Test.YtnlclmlnpkncoaaGreatW02
import Derived.Test.YtnlclmlnpkncoaaGreatW05
import Derived.Test.YtnlclmlnpkncoaaGreatW01
import Derived.Deep.LoopGhost
import Derived.IntWalk
import Derived.Test.YtnlclmlnpkncoaaGreatW06
import Derived.Deep.Cut
import Derived.Lib.MinMax
import Derived.BigQuiet
import Derived.Deep.QuietTactic
namespace Go.Proofs.YtnlclmlnpkncoaaGreat
open Go.ChangeShapes Go.WideShapes Go.ChangeAt Go.RowKit
set_option linter.unusedVariables false
set_option linter.unusedSimpArgs false
set_option maxRecDepth 4000
abbrev Rl := Int × Int
def rlC (r : Rl) : List Value := [.int .i64 r.1, .int .i64 r.2]
def rlsC : List Rl → List Value
  | [] => []
  | s :: l => rlC s ++ rlsC l
theorem rlsC_length : ∀ l : List Rl, (rlsC l).length = l.length * 2
  | [] => rfl
  | s :: l => by simp [rlsC, rlC, rlsC_length l]; omega
theorem rlsC_append : ∀ l m : List Rl, rlsC (l ++ m) = rlsC l ++ rlsC m
  | [], m => rfl
  | s :: l, m => by simp [rlsC, rlsC_append l m]
theorem rlsC_at : ∀ (l : List Rl) (k : Nat) (s : Rl), l[k]? = some s → ∀ j, j < 2 → (rlsC l)[k * 2 + j]? = (rlC s)[j]?
  | [], k, s, h, j, hj => by simp at h
  | x :: l, 0, s, h, j, hj => by
    simp at h
    subst h
    rw [rlsC, List.getElem?_append_left (by simp [rlC]; omega), Nat.zero_mul, Nat.zero_add]
  | x :: l, k + 1, s, h, j, hj => by
    rw [rlsC, List.getElem?_append_right (by simp [rlC]; omega)]
    have := rlsC_at l k s (by simpa using h) j hj
    rw [← this]
    congr 1
    simp [rlC]
    omega
abbrev RRow (w : World) (g : Nat) (l : List Rl) : Prop := VRow w g (rlsC l) 39
theorem RRow.two {w : World} {g : Nat} {l : List Rl} (h : RRow w g l) (k : Nat) (s : Rl) (hk : l[k]? = some s) : w.cell? ⟨g, k * 2, none⟩ = some (.int .i64 s.1) ∧ w.cell? ⟨g, k * 2 + 1, none⟩ = some (.int .i64 s.2) :=
  ⟨h.cell _ _ (by have := rlsC_at l k s hk 0 (by omega); simpa [rlC] using this), h.cell _ _ (by have := rlsC_at l k s hk 1 (by omega); simpa [rlC] using this)⟩
def ORl (lo hi : Nat) (w : World) (a : Option Addr) (l : List Rl) : Prop := (a = none ∧ l = []) ∨ ∃ g, a = some ⟨g, 0, none⟩ ∧ lo ≤ g ∧ g < hi ∧ RRow w g l
theorem ORl.below {lo hi : Nat} {w w' : World} {a : Option Addr} {l : List Rl} (h : ORl lo hi w a l) (hb : Below w.heap.size w w') : ORl lo hi w' a l := by
  rcases h with h | ⟨g, e, h1, h2, r⟩
  · exact .inl h
  · exact .inr ⟨g, e, h1, h2, r.below hb⟩
theorem ORl.drew {lo hi : Nat} {w : World} {a : Option Addr} {l : List Rl} (h : ORl lo hi w a l) : ORl lo hi w.drew a l := h
theorem ORl.alloc {lo hi : Nat} {w : World} {a : Option Addr} {l : List Rl} (h : ORl lo hi w a l) (o : Obj) : ORl lo hi (w.alloc o) a l := h.below ((Below.refl _ _).alloc (Nat.le_refl _) o)
theorem ORl.mono {lo hi lo' hi' : Nat} {w : World} {a : Option Addr} {l : List Rl} (h : ORl lo hi w a l) (h1 : lo' ≤ lo) (h2 : hi ≤ hi') : ORl lo' hi' w a l := by
  rcases h with h | ⟨g, e, q1, q2, r⟩
  · exact .inl h
  · exact .inr ⟨g, e, by omega, by omega, r⟩
theorem ORl.same {lo hi lo2 hi2 : Nat} {w w' : World} {a : Option Addr} {l : List Rl} (h : ORl lo2 hi2 w a l) (hs : Same lo hi w w') (hd : hi2 ≤ lo ∨ hi ≤ lo2) : ORl lo2 hi2 w' a l := by
  rcases h with h | ⟨g, e, q1, q2, r⟩
  · exact .inl h
  · exact .inr ⟨g, e, q1, q2, r.same hs (by omega)⟩
theorem ORl.row {lo hi : Nat} {w : World} {a : Option Addr} {l : List Rl} (h : ORl lo hi w a l) {k : Nat} (hk : k < l.length) : ∃ g, a = some ⟨g, 0, none⟩ ∧ RRow w g l := by
  rcases h with ⟨_, rfl⟩ | ⟨g, e, q1, q2, r⟩
  · simp at hk
  · exact ⟨g, e, r⟩
def OwnR (w : World) (base : Nat) (v : Value) (l : List Rl) : Prop := w.ownsRow base 39 2 v l.length (rlsC l)
theorem OwnR.form {w : World} {base : Nat} {v : Value} {l : List Rl} (h : OwnR w base v l) : ∃ a k, v = .slice a l.length k := by
  rcases h.2 with ⟨h1, h2⟩ | ⟨g, cap, cur, h1, _⟩
  · exact ⟨none, 0, by rw [h1, h2]⟩
  · exact ⟨some ⟨g, 0, none⟩, cap, h1⟩
theorem OwnR.orl {w : World} {base : Nat} {a : Option Addr} {n k : Nat} {l : List Rl} (h : OwnR w base (.slice a n k) l) : ORl base w.heap.size w a l := by
  obtain ⟨hl, h1 | ⟨g, cap, cur, hv, hb, hh, hc, hm, hs, ht⟩⟩ := h
  · obtain ⟨h1, h2⟩ := h1
    simp at h1
    exact .inl ⟨h1.1, List.eq_nil_of_length_eq_zero h2⟩
  · simp at hv
    obtain ⟨rfl, _, rfl⟩ := hv
    exact .inr ⟨g, rfl, hb, (Array.getElem?_eq_some_iff.1 hh).1, cur, hh, by rw [hl, hs]; exact Nat.mul_le_mul_right _ hc, by rw [hl]; exact ht⟩
theorem OwnR.alloc {w : World} {base : Nat} {v : Value} {l : List Rl} (h : OwnR w base v l) (o : Obj) : OwnR (w.alloc o) base v l := World.ownsRow.alloc h o
theorem OwnR.start (w : World) : OwnR (w.alloc (.cells #[] 39)) w.heap.size (.slice (some ⟨w.heap.size, 0, none⟩) 0 0) [] :=
  ⟨rfl, .inr ⟨w.heap.size, 0, #[], rfl, Nat.le_refl _, Blk.new w #[] _, Nat.le_refl _, by unfold maxLen; omega, rfl, rfl⟩⟩
theorem OwnR.nil (w : World) (base : Nat) : OwnR w base (.slice none 0 0) [] := World.ownsRow_nil w base _ _
theorem infoRl : (Tryz.prog.info? 39).map (fun i => (i.zero, i.size, i.bytes)) = some (some (.agg #[.int .i64 0, .int .i64 0]), 2, 16) := by kernel_rfl
theorem wp_pushR {ops : Array Oper} {rest : List Oper} {o : Oper} {a : Act} {Q : Exit → Act → World → Prop} (hgd : o.guard = none) (s x : Operand)
    (ho : o.op = .call { callee := .builtin .append, args := #[s, x], argTypes := #[32, 32] })
    (base : Nat) (v : Value) (l : List Rl) (hs : a.eval s = v) {w0 : World} (hown : OwnR w0 base v l) (u : Rl)
    {zz : Nat} (hx : a.eval x = .slice (some ⟨zz, 0, none⟩) 1 1) (hzz : w0.heap.size = zz) (hl : l.length ≤ 1048576) (hbase : base ≤ w0.heap.size)
    (h : ∀ v' w', OwnR w' base v' (l ++ [u]) → Below base w0 w' → wpList Tryz.prog ops Q rest (a.put o.dst v') w') : wpList Tryz.prog ops Q (o :: rest) a (w0.alloc (.cells #[.int .i64 u.1, .int .i64 u.2] 39)) := by
  subst hzz
  obtain ⟨i0, hi, hz0, hz1, hz2⟩ := info_parts infoRl
  have hown0 : w0.ownsRow base 39 2 v l.length (rlsC l) := hown
  refine wpList_append_own _ hgd s x 32 ho base 39 i0 _ 2 16 Tryz.underlying32 hi hz0 hz1 hz2 rfl (by decide) v l.length (rlsC l) hs (hown0.alloc _) ⟨w0.heap.size, 0, none⟩ 1 1 (rlC u) hx (by simp [rlC])
    (World.news_of_block (cs := #[.int .i64 u.1, .int .i64 u.2]) (Blk.new w0 _ 39)) (fun y hy => by simp [rlC] at hy; rcases hy with rfl | rfl <;> rfl) (by unfold maxLen; omega) (by omega) (by simp; omega) ?_
  intro v' w' hown' hgrow _
  refine h v' w' ?_ (((Below.refl base w0).alloc hbase _).grown hgrow (by simp; omega) (fun k hk => (hown0.lt k hk).1))
  show w'.ownsRow base 39 2 _ (l ++ [u]).length (rlsC (l ++ [u]))
  rw [List.length_append, rlsC_append]
  simpa [rlsC] using hown'
def rollsTo : Nat → List Rl
  | 0 => []
  | a + 1 => rollsTo a ++ (List.range (a + 1)).map fun (j : Nat) => ((a : Int) + 1, (j : Int) + 1)
def rowTo (a j : Nat) : List Rl := rollsTo a ++ (List.range j).map fun (j : Nat) => ((a : Int) + 1, (j : Int) + 1)
theorem rowTo_succ (a j : Nat) : rowTo a (j + 1) = rowTo a j ++ [((a : Int) + 1, (j : Int) + 1)] := by simp [rowTo, List.range_succ]
theorem rowTo_zero (a : Nat) : rowTo a 0 = rollsTo a := by simp [rowTo]
theorem rowTo_full (a : Nat) : rowTo a (a + 1) = rollsTo (a + 1) := rfl
theorem rollsTo_length : ∀ a, (rollsTo a).length ≤ a * a
  | 0 => by simp [rollsTo]
  | a + 1 => by
    have := rollsTo_length a
    rw [rollsTo, List.length_append, List.length_map, List.length_range, Nat.add_mul, Nat.mul_add]
    omega
theorem rowTo_length (a j : Nat) : (rowTo a j).length ≤ a * a + j := by
  have := rollsTo_length a
  rw [rowTo, List.length_append, List.length_map, List.length_range]
  omega
theorem rollsTo_mem : ∀ (a : Nat) (r : Rl), r ∈ rollsTo a → 1 ≤ r.2 ∧ r.2 ≤ r.1 ∧ r.1 ≤ (a : Int)
  | 0, r, h => by simp [rollsTo] at h
  | a + 1, r, h => by
    rw [rollsTo, List.mem_append] at h
    rcases h with h | h
    · have := rollsTo_mem a r h
      omega
    · obtain ⟨j, hj, rfl⟩ := List.mem_map.1 h
      have := List.mem_range.1 hj
      dsimp only
      omega
def RollsGot (l : List Rl) (w : World) (e : Ending) (w' : World) : Prop := ∃ a k, e = .returned (.slice a l.length k) ∧ ORl w.heap.size w'.heap.size w' a l ∧ Below w.heap.size w w'
set_option maxRecDepth 8000 in
set_option maxHeartbeats 1000000 in
theorem implRolls_any (p c h : Int) (S : Nat) (w : World) (hS : S ≤ 6) :
    Calls Tryz.prog 60 #[.agg #[.int .i64 p, .int .i64 c, .int .i64 h, .int .i64 (S : Int)]] w (RollsGot (rollsTo S) w) := by
  have BV := Blk.new w #[.int .i64 p, .int .i64 c, .int .i64 h, .int .i64 (S : Int)] 25
  have hb : Below w.heap.size w (w.alloc (.cells #[.int .i64 p, .int .i64 c, .int .i64 h, .int .i64 (S : Int)] 25)) := (Below.refl _ _).alloc (Nat.le_refl _) _
  have hz0 : (w.alloc (.cells #[.int .i64 p, .int .i64 c, .int .i64 h, .int .i64 (S : Int)] 25)).heap.size = w.heap.size + 1 := by simp
  go_enter Tryz.func60, Tryz.ntmps60
  go_wp2_with fail
  generalize (w.alloc (.cells #[.int .i64 p, .int .i64 c, .int .i64 h, .int .i64 (S : Int)] 25)) = v0 at *
  have HZ0 := Lib.hid hz0
  have hz0a : w.heap.size + 1 ≤ v0.heap.size := by omega
  clear hz0
  go_loopg [3, 4, 5] S (fun m q3 q4 q5 wr => ∃ a : Nat, a ≤ S ∧ m = S - a ∧ q4 = .int .i64 ((a : Int) + 1) ∧ OwnR wr v0.heap.size q3 (rollsTo a) ∧ Below v0.heap.size v0 wr)
  case atStart => exact ⟨0, by omega, by omega, rfl, OwnR.nil v0 _, Below.refl _ _⟩
  case round =>
    obtain ⟨a, ha, hm, rfl, hO, hbel⟩ := hrel
    obtain ⟨x0, x1, x2, x3, xf, xl⟩ := (BV.below hbel).four
    by_cases hlt : a < S
    · have hlt' : (a : Int) + 1 ≤ (S : Int) := by omega
      have ha6 : (a : Int) ≤ 6 := by omega
      go_wp2_with fail
      clear x0 x1 x2 x3 xf xl
      rw [← rowTo_zero] at hO
      go_loopg [3, 5] (a + 1) (fun m q3 q5 wr => ∃ j : Nat, j ≤ a + 1 ∧ m = a + 1 - j ∧ q5 = .int .i64 ((j : Int) + 1) ∧ OwnR wr v0.heap.size q3 (rowTo a j) ∧ Below v0.heap.size v0 wr)
      case atStart => exact ⟨0, by omega, by omega, rfl, hO, hbel⟩
      case round =>
        clear hO hbel
        obtain ⟨j, hj, hm2, rfl, hO, hbel⟩ := hrel
        have hle := rowTo_length a j
        have hle2 : a * a ≤ 6 * 6 := Nat.mul_le_mul (by omega) (by omega)
        by_cases hlj : j < a + 1
        · have hlj' : (j : Int) + 1 ≤ (a : Int) + 1 := by omega
          have hrs := rowTo_succ a j
          have hLl : (rowTo a j).length ≤ 1048576 := by omega
          obtain ⟨LL, hLL⟩ : ∃ z, rowTo a j = z := ⟨_, rfl⟩
          rw [hLL] at hO hrs hLl
          have HRS := Lib.hid hrs
          have hsz := hbel.size
          clear hrs hLL hle hle2
          go_wp2_with (at_builtin; go_loud (refine wp_pushR rfl _ _ rfl v0.heap.size _ LL rfl hO ((a : Int) + 1, (j : Int) + 1) rfl rfl hLl hsz ?_; intro v2 w6 hO2 hb6))
          go_roundg (a + 1 - (j + 1))
          case measure => omega
          case rel => exact ⟨j + 1, by omega, rfl, by go_num, by rw [HRS.out]; exact hO2, hbel.trans hb6⟩
        · obtain rfl : j = a + 1 := by omega
          rw [rowTo_full] at hO
          clear hle hle2
          go_wp2
          go_roundg (S - (a + 1))
          case measure => omega
          case rel => exact ⟨a + 1, by omega, rfl, by go_num, hO, hbel⟩
    · obtain rfl : a = S := by omega
      have hlt' : (a : Int) < (a : Int) + 1 := by omega
      obtain ⟨LL, hLL⟩ : ∃ z, rollsTo a = z := ⟨_, rfl⟩
      rw [hLL] at hO
      have HLL := Lib.hid hLL
      clear hLL
      obtain ⟨aR, kR, rfl⟩ := hO.form
      go_wp2
      go_ret
      exact ⟨aR, kR, by rw [HLL.out]; rfl, by rw [HLL.out]; exact hO.orl.mono hb.size (Nat.le_refl _), hb.trans (hbel.mono hb.size)⟩
set_option maxRecDepth 8000 in
set_option maxHeartbeats 2000000 in
theorem scales_any (p c h : Int) (S : Nat) (hS : 1 ≤ S ∧ S ≤ 6) (w : World) :
    Calls Tryz.prog 59 #[.agg #[.int .i64 p, .int .i64 c, .int .i64 h, .int .i64 (S : Int)]] w fun e w' => ∃ b, e = .returned (.map (some b)) ∧ ScM w' b S (nn S) ∧ w.heap.size ≤ b ∧ Below w.heap.size w w' := by
  have hn := nn_range hS
  have hbase := base_range hS
  have BV := Blk.new w #[.int .i64 p, .int .i64 c, .int .i64 h, .int .i64 (S : Int)] 25
  have hb : Below w.heap.size w (w.alloc (.cells #[.int .i64 p, .int .i64 c, .int .i64 h, .int .i64 (S : Int)] 25)) := (Below.refl _ _).alloc (Nat.le_refl _) _
  have hz : (w.alloc (.cells #[.int .i64 p, .int .i64 c, .int .i64 h, .int .i64 (S : Int)] 25)).heap.size = w.heap.size + 1 := by simp
  obtain ⟨x0, x1, x2, x3, xf, xl⟩ := BV.four
  have hmm : (Instr.makeMap 65 none).run Tryz.prog (w.alloc (.cells #[.int .i64 p, .int .i64 c, .int .i64 h, .int .i64 (S : Int)] 25)) = .ok (.map (some (w.heap.size + 1))) ((w.alloc (.cells #[.int .i64 p, .int .i64 c, .int .i64 h, .int .i64 (S : Int)] 25)).alloc (.map #[] 0)) := by
    rw [← hz]
    rfl
  go_enter Tryz.func59, Tryz.ntmps59
  go_wp2_with fail
  clear x0 x1 x2 x3 xf xl
  have HM := ScM.made (w.alloc (.cells #[.int .i64 p, .int .i64 c, .int .i64 h, .int .i64 (S : Int)] 25)) S
  replace BV := BV.alloc (.map #[] 0)
  replace hb := hb.alloc (by omega) (.map #[] 0)
  rw [hz] at HM
  clear hmm hz
  generalize ((w.alloc (.cells #[.int .i64 p, .int .i64 c, .int .i64 h, .int .i64 (S : Int)] 25)).alloc (.map #[] 0)) = v0 at *
  go_loopg [4, 5] (nn S) (fun m sc d wr => ∃ (k : Nat) (C : Int), k ≤ nn S ∧ m = nn S - k ∧ sc = .int .i64 C ∧ d = .int .i64 (k : Int) ∧ Hid (C = ((scN S k : Nat) : Int)) ∧ ScM wr (w.heap.size + 1) S k ∧ Blk wr w.heap.size #[.int .i64 p, .int .i64 c, .int .i64 h, .int .i64 (S : Int)] 25 ∧ Below w.heap.size w wr)
  case atStart => exact ⟨0, 1, by omega, by omega, rfl, rfl, Lib.hid (by rw [scN_zero]; rfl), HM, BV, hb⟩
  case round =>
    clear HM BV hb
    obtain ⟨k, C, hk, hm, rfl, rfl, HC, HM, BV, hbel⟩ := hrel
    by_cases hlt : k < nn S
    · have hC := scN_in hS hlt
      have hC1 := scN_pos hS.1 k
      obtain ⟨w2, r1, HM2, g1⟩ := HM.put (by omega) hC
      have C0 : 1 ≤ C ∧ C ≤ 1000000000000000 := by have := HC.out; omega
      obtain ⟨C1, C2⟩ := C0
      rw [← HC.out] at r1
      obtain ⟨B, wB, hB0, hB1, HB⟩ : ∃ B : Int, IntKind.i64.wrap ((S : Int) * (S : Int)) = B ∧ 1 ≤ B ∧ B ≤ 36 ∧ Hid (B = ((S * S : Nat) : Int)) := by
        refine ⟨((S * S : Nat) : Int), ?_, by omega, by omega, Lib.hid rfl⟩
        rw [← Int.natCast_mul]
        exact IntWalk.i64_in _ (by omega)
      obtain ⟨D, wD, HD⟩ : ∃ D : Int, IntKind.i64.wrap (C * B) = D ∧ Hid (D = ((scN S (k + 1) : Nat) : Int)) := by
        refine ⟨C * B, ?_, Lib.hid (by rw [HC.out, HB.out, scN_succ]; rfl)⟩
        have h1 : 0 ≤ C * B := Int.mul_nonneg (by omega) (by omega)
        have h2 : C * B ≤ 1000000000000000 * 36 := Int.mul_le_mul C2 hB1 (by omega) (by omega)
        exact IntWalk.i64_in _ (by omega)
      have BV2 := BV.grown g1 (by omega)
      have hbel2 := hbel.grown g1 hbel.size (fun k hk => by cases hk; omega)
      have k60 : (k : Int) ≤ 60 := by omega
      obtain ⟨x0, x1, x2, x3, xf, xl⟩ := BV2.four
      clear hC hC1 HM BV hbel
      go_wp2
      go_roundg (nn S - (k + 1))
      case measure => omega
      case rel => exact ⟨k + 1, D, by omega, rfl, rfl, by go_num, HD, HM2, BV2, hbel2⟩
    · obtain rfl : k = nn S := by omega
      by_cases hS1 : S = 1
      · subst hS1
        have e : ((nn 1 : Nat) : Int) ≤ 60 ↔ False := by simp [nn]
        have e2 : ((nn 1 : Nat) : Int) = 61 := rfl
        rw [e2]
        go_wp2
        go_ret
        exact ⟨_, rfl, HM, by omega, hbel⟩
      · have ho := (scN_top hS).2 (by omega)
        have C1 : 1000000000000000 < C := by have := HC.out; omega
        have k60 : ((nn S : Nat) : Int) ≤ 60 := by
          have : S = 2 ∨ S = 3 ∨ S = 4 ∨ S = 5 ∨ S = 6 := by omega
          rcases this with rfl | rfl | rfl | rfl | rfl <;> decide
        clear ho hlt
        go_wp2
        go_ret
        exact ⟨_, rfl, HM, by omega, hbel⟩
abbrev XRow (w : World) (g : Nat) (l : List Rl) : Prop := VRow w g (rlsC l) 35
theorem XRow.two {w : World} {g : Nat} {l : List Rl} (h : XRow w g l) (k : Nat) (s : Rl) (hk : l[k]? = some s) : w.cell? ⟨g, k * 2, none⟩ = some (.int .i64 s.1) ∧ w.cell? ⟨g, k * 2 + 1, none⟩ = some (.int .i64 s.2) :=
  ⟨h.cell _ _ (by have := rlsC_at l k s hk 0 (by omega); simpa [rlC] using this), h.cell _ _ (by have := rlsC_at l k s hk 1 (by omega); simpa [rlC] using this)⟩
def OX (w : World) (a : Option Addr) (l : List Rl) : Prop := (a = none ∧ l = []) ∨ ∃ g, a = some ⟨g, 0, none⟩ ∧ XRow w g l
theorem OX.nil (w : World) : OX w none [] := .inl ⟨rfl, rfl⟩
theorem OX.below {w w' : World} {a : Option Addr} {l : List Rl} (h : OX w a l) (hb : Below w.heap.size w w') : OX w' a l := by
  rcases h with h | ⟨g, e, r⟩
  · exact .inl h
  · exact .inr ⟨g, e, r.below hb⟩
theorem OX.drew {w : World} {a : Option Addr} {l : List Rl} (h : OX w a l) : OX w.drew a l := h
theorem OX.alloc {w : World} {a : Option Addr} {l : List Rl} (h : OX w a l) (o : Obj) : OX (w.alloc o) a l := h.below ((Below.refl _ _).alloc (Nat.le_refl _) o)
theorem OX.row {w : World} {a : Option Addr} {l : List Rl} (h : OX w a l) {k : Nat} (hk : k < l.length) : ∃ g, a = some ⟨g, 0, none⟩ ∧ XRow w g l := by
  rcases h with ⟨_, rfl⟩ | ⟨g, e, r⟩
  · simp at hk
  · exact ⟨g, e, r⟩
theorem OX.one {w : World} {g : Nat} {a b : Int} (h : Blk w g #[.int .i64 a, .int .i64 b] 35) : OX w (some ⟨g, 0, none⟩) [(a, b)] := .inr ⟨g, rfl, ⟨_, h, by simp [rlsC, rlC], by simp [rlsC, rlC]⟩⟩
theorem OX.two {w : World} {g : Nat} {a b c d : Int} (h : Blk w g #[.int .i64 a, .int .i64 b, .int .i64 c, .int .i64 d] 35) : OX w (some ⟨g, 0, none⟩) [(a, b), (c, d)] := .inr ⟨g, rfl, ⟨_, h, by simp [rlsC, rlC], by simp [rlsC, rlC]⟩⟩
theorem ngB_mul {a b : Int} (h : a * b ≠ 0) : ngB a b = decide (a * b < 0) := by
  have ha : a ≠ 0 := fun e => h (by rw [e, Int.zero_mul])
  have hb : b ≠ 0 := fun e => h (by rw [e, Int.mul_zero])
  unfold ngB
  by_cases ga : a < 0
  · by_cases gb : b < 0
    · have := Int.mul_pos_of_neg_of_neg ga gb
      rw [decide_eq_true ga, decide_eq_true gb, decide_eq_false (by omega)]
      rfl
    · have := Int.mul_neg_of_neg_of_pos ga (show 0 < b by omega)
      rw [decide_eq_true ga, decide_eq_false gb, decide_eq_true this]
      rfl
  · by_cases gb : b < 0
    · have := Int.mul_neg_of_pos_of_neg (show 0 < a by omega) gb
      rw [decide_eq_false ga, decide_eq_true gb, decide_eq_true this]
      rfl
    · have := Int.mul_pos (show 0 < a by omega) (show 0 < b by omega)
      rw [decide_eq_false ga, decide_eq_false gb, decide_eq_false (by omega)]
      rfl
theorem rdN_zero (B : Nat) : ∀ D, (rdN B 0 D).1 = 0
  | 0 => rfl
  | D + 1 => by rw [rdN_go (Nat.zero_mod _), Nat.zero_div, rdN_zero B D]
theorem rdG_sign {S : Nat} {g : Bool} {N : Int} {D : Nat} (h : N ≠ 0 → g = decide (N < 0)) : rdG S g N.natAbs D = rdX S N D := by
  unfold rdG rdX
  have e : sgM g (rdN (S * S) N.natAbs D).1 = sgI N (rdN (S * S) N.natAbs D).1 := by
    by_cases h0 : N = 0
    · subst h0
      rw [Int.natAbs_zero, rdN_zero]
      unfold sgM sgI
      cases g <;> rfl
    · rw [h h0]
      unfold sgM sgI
      by_cases q : N < 0
      · rw [decide_eq_true q, if_pos rfl, if_pos q]
      · rw [decide_eq_false q, if_neg q]; rfl
  rw [e]
theorem rdG_mul (S : Nat) (a b : Int) (D : Nat) : rdG S (ngB a b) (a.natAbs * b.natAbs) D = rdX S (a * b) D := by
  rw [← Int.natAbs_mul]
  exact rdG_sign ngB_mul
def xo3 (o : Option (Int × Int)) (c : Int) : Int × Int × Int := match o with | some r => (r.1, r.2, 0) | none => (0, 0, c)
theorem xo3_1 (o : Option (Int × Int)) (c : Int) : xoN o = (xo3 o c).1 := by cases o <;> rfl
theorem xo3_2 (o : Option (Int × Int)) (c : Int) : xoD o = (xo3 o c).2.1 := by cases o <;> rfl
theorem xo3_3 (o : Option (Int × Int)) (c : Int) : xoE o c = (xo3 o c).2.2 := by cases o <;> rfl
abbrev xoV (r : Int × Int × Int) : Value := .tuple #[.agg #[.int .i64 r.1, .int .i64 r.2.1], .int .i64 r.2.2]
theorem product_reduced (b S : Nat) (hS : 1 ≤ S ∧ S ≤ 6) (x k : Int) (D : Nat) (hD : D ≤ nn S) (W : World) (hh ll : Int) (HS : ScM W b S (nn S)) (HWD : WD hh ll (x.natAbs * k.natAbs)) :
    Calls Tryz.prog 72 #[.map (some b), .agg #[.bool (ngB x k), .int .u64 hh, .int .u64 ll], .int .i64 (D : Int)] W fun e w' => e = .returned (xoV (xo3 (rdX S (x * k) D) 3)) ∧ Below W.heap.size W w' := by
  have h := reduced_any b S hS (ngB x k) hh ll (x.natAbs * k.natAbs) D W HS HWD hD
  rw [rdG_mul, xo3_1 _ 3, xo3_2 _ 3, xo3_3] at h
  exact h
def adO (S : Nat) (a : Int) (i : Nat) (b : Int) (j : Nat) : Option (Int × Int) :=
  if 2000000000000000000 < (a * (scN S (j - i) : Int)).natAbs then none else rdX S (a * (scN S (j - i) : Int) + b) j
theorem adX_le {S : Nat} {a b : Int} {i j : Nat} (h : i ≤ j) : adX S a i b j = adO S a i b j := by unfold adX; rw [if_pos h]; rfl
theorem adX_gt {S : Nat} {a b : Int} {i j : Nat} (h : ¬ i ≤ j) : adX S a i b j = adO S b j a i := by unfold adX; rw [if_neg h]; rfl
end Go.Proofs.YtnlclmlnpkncoaaGreat
namespace Go.Proofs.YtnlclmlnpkncoaaGreat
open Go.ChangeShapes Go.WideShapes Go.ChangeAt Go.RowKit
set_option linter.unusedVariables false
set_option linter.unusedSimpArgs false
theorem fourNew (w : World) (v1 v2 v3 v4 : Array Value) (t1 t2 t3 t4 : TypeId) :
    Blk ((((w.alloc (.cells v1 t1)).alloc (.cells v2 t2)).alloc (.cells v3 t3)).alloc (.cells v4 t4)) w.heap.size v1 t1 ∧ Blk ((((w.alloc (.cells v1 t1)).alloc (.cells v2 t2)).alloc (.cells v3 t3)).alloc (.cells v4 t4)) (w.heap.size + 1) v2 t2 ∧ Blk ((((w.alloc (.cells v1 t1)).alloc (.cells v2 t2)).alloc (.cells v3 t3)).alloc (.cells v4 t4)) (w.heap.size + 1 + 1) v3 t3 ∧
    Blk ((((w.alloc (.cells v1 t1)).alloc (.cells v2 t2)).alloc (.cells v3 t3)).alloc (.cells v4 t4)) (w.heap.size + 1 + 1 + 1) v4 t4 ∧
    Below w.heap.size w ((((w.alloc (.cells v1 t1)).alloc (.cells v2 t2)).alloc (.cells v3 t3)).alloc (.cells v4 t4)) ∧ ((((w.alloc (.cells v1 t1)).alloc (.cells v2 t2)).alloc (.cells v3 t3)).alloc (.cells v4 t4)).heap.size = w.heap.size + 1 + 1 + 1 + 1 := by
  obtain ⟨h1, h2, h3, h4, h5⟩ := three_new w v1 v2 v3 t1 t2 t3
  have hn := Blk.new (((w.alloc (.cells v1 t1)).alloc (.cells v2 t2)).alloc (.cells v3 t3)) v4 t4
  rw [h5] at hn
  exact ⟨h1.alloc _, h2.alloc _, h3.alloc _, hn, h4.alloc h4.size _, by simp⟩
end Go.Proofs.YtnlclmlnpkncoaaGreat
namespace Go.Proofs.YtnlclmlnpkncoaaGreat
open Go.ChangeShapes Go.WideShapes Go.ChangeAt Go.RowKit
set_option linter.unusedVariables false
set_option linter.unusedSimpArgs false
set_option maxRecDepth 4000
theorem xvB_parts {S : Nat} {n d : Int} (h : xvB S n d = true) : 0 ≤ d ∧ d < nn S ∧ -1000000000000000000 ≤ n ∧ n ≤ 1000000000000000000 := by
  unfold xvB at h
  simp only [decide_eq_true_eq] at h
  exact ⟨h.1, h.2.1, h.2.2.1, h.2.2.2.1⟩
set_option maxRecDepth 8000 in
set_option maxHeartbeats 1000000 in
theorem l09Gcd_any (a b : Int) (ha : -9223372036854775807 ≤ a ∧ a ≤ 9223372036854775807) (hb : -9223372036854775807 ≤ b ∧ b ≤ 9223372036854775807) (w : World) :
    Calls Tryz.prog 107 #[.int .i64 a, .int .i64 b] w fun e w' => e = .returned (.int .i64 ((Int.gcd a b : Nat) : Int)) ∧ w = w' := by
  obtain ⟨g, hg⟩ : ∃ g, Int.gcd a b = g := ⟨_, rfl⟩
  have hg2 : Nat.gcd a.natAbs b.natAbs = g := hg
  rw [hg]
  have hx : a.natAbs < 9223372036854775808 := by omega
  have hy : b.natAbs < 9223372036854775808 := by omega
  have e1 : ((a.natAbs : Nat) : Int) = max a (-a) := by omega
  have e2 : ((b.natAbs : Nat) : Int) = max b (-b) := by omega
  obtain ⟨a1, a2⟩ := ha
  obtain ⟨b1, b2⟩ := hb
  have wa : IntKind.i64.wrap (-a) = -a := IntWalk.i64_in _ (by omega)
  have wb : IntKind.i64.wrap (-b) = -b := IntWalk.i64_in _ (by omega)
  have E1 := Lib.hid e1
  have E2 := Lib.hid e2
  have X := Lib.hid hx
  have Y := Lib.hid hy
  clear e1 e2 hx hy hg
  go_enter Tryz.func107, Tryz.ntmps107
  go_wp2_with fail
  go_loopg [0, 1] b.natAbs (fun m q0 q1 wr => ∃ (x y : Nat) (A B : Int), m = y ∧ q0 = .int .i64 A ∧ q1 = .int .i64 B ∧ Hid (A = (x : Int)) ∧ Hid (B = (y : Int)) ∧ Nat.gcd x y = g ∧ Hid (x < 9223372036854775808) ∧ Hid (y < 9223372036854775808) ∧ wr = w)
  case atStart => exact ⟨a.natAbs, b.natAbs, max a (-a), max b (-b), rfl, rfl, rfl, Lib.hid E1.out.symm, Lib.hid E2.out.symm, hg2, X, Y, rfl⟩
  case round =>
    clear X Y E1 E2 hg2
    obtain ⟨x, y, A, B, hm, rfl, rfl, HA, HB, hgg, HX, HY, rfl⟩ := hrel
    have A0 : 0 ≤ A ∧ A < 9223372036854775808 := by have := HA.out; have := HX.out; omega
    have B0 : 0 ≤ B ∧ B < 9223372036854775808 := by have := HB.out; have := HY.out; omega
    obtain ⟨A1, A2⟩ := A0
    obtain ⟨B1, B2⟩ := B0
    by_cases hy : y = 0
    · have hB0 : B = 0 := by have := HB.out; omega
      subst hB0
      have eg : A = (g : Int) := by rw [HA.out, ← hgg, hy, Nat.gcd_zero_right]
      subst eg
      clear hgg hy hm
      go_wp2
      go_ret
      exact ⟨rfl, rfl⟩
    · have hB0 : B ≠ 0 := by have := HB.out; omega
      have f0 : (B == 0) = false := by rw [beq_eq_false_iff_ne]; exact hB0
      have HR : Hid (A % B = ((x % y : Nat) : Int)) := Lib.hid (by rw [HA.out, HB.out]; rfl)
      have hgg2 : Nat.gcd y (x % y) = g := by rw [← hgg, Nat.gcd_comm x y, Nat.gcd_rec y x, Nat.gcd_comm]
      have hlt := Nat.mod_lt x (show 0 < y by omega)
      have G2 := Lib.hid hgg2
      clear hgg hgg2
      go_wp2
      go_roundg (x % y)
      case measure => omega
      case rel => exact ⟨y, x % y, B, A % B, rfl, rfl, rfl, HB, HR, G2.out, HY, Lib.hid (by have := HY.out; omega), rfl⟩
def tmV (a b : Int) : Int := if (a * b).natAbs ≤ 1000000000000000000 then a * b else 0
def tmB (a b : Int) : Bool := decide ((a * b).natAbs ≤ 1000000000000000000)
set_option maxRecDepth 8000 in
set_option maxHeartbeats 1000000 in
theorem l09Times_any (a b : Int) (ha : -9223372036854775807 ≤ a ∧ a ≤ 9223372036854775807) (hb : -9223372036854775807 ≤ b ∧ b ≤ 9223372036854775807) (w : World) :
    Calls Tryz.prog 108 #[.int .i64 a, .int .i64 b] w fun e w' => e = .returned (.tuple #[.int .i64 (tmV a b), .bool (tmB a b)]) ∧ w = w' := by
  obtain ⟨rV, hrV⟩ : ∃ x, tmV a b = x := ⟨_, rfl⟩
  obtain ⟨rB, hrB⟩ : ∃ x, tmB a b = x := ⟨_, rfl⟩
  rw [hrV, hrB]
  unfold tmV at hrV
  unfold tmB at hrB
  by_cases a0 : a = 0
  · have hz : a * b = 0 := by rw [a0, Int.zero_mul]
    rw [hz] at hrV hrB
    obtain rfl : rV = 0 := by rw [← hrV]; rfl
    obtain rfl : rB = true := by rw [← hrB]; rfl
    subst a0
    clear hrV hrB hz
    go_enter Tryz.func108, Tryz.ntmps108
    go_wp2
    go_ret2
    exact ⟨rfl, rfl⟩
  · have fa : (a == 0) = false := by rw [beq_eq_false_iff_ne]; exact a0
    by_cases b0 : b = 0
    · have hz : a * b = 0 := by rw [b0, Int.mul_zero]
      rw [hz] at hrV hrB
      obtain rfl : rV = 0 := by rw [← hrV]; rfl
      obtain rfl : rB = true := by rw [← hrB]; rfl
      subst b0
      clear hrV hrB hz
      go_enter Tryz.func108, Tryz.ntmps108
      go_wp2
      go_ret2
      exact ⟨rfl, rfl⟩
    · have fb : (b == 0) = false := by rw [beq_eq_false_iff_ne]; exact b0
      have fa2 : (a != 0) = true := by rw [bne, fa]; rfl
      have fb2 : (b != 0) = true := by rw [bne, fb]; rfl
      obtain ⟨a1, a2⟩ := ha
      obtain ⟨b1, b2⟩ := hb
      have wa : IntKind.i64.wrap (-a) = -a := IntWalk.i64_in _ (by omega)
      have wb : IntKind.i64.wrap (-b) = -b := IntWalk.i64_in _ (by omega)
      obtain ⟨MA, hMA, HMA⟩ : ∃ x, max a (-a) = x ∧ Hid (x = ((a.natAbs : Nat) : Int)) := ⟨_, rfl, Lib.hid (by omega)⟩
      obtain ⟨MB, hMB, HMB⟩ : ∃ x, max b (-b) = x ∧ Hid (x = ((b.natAbs : Nat) : Int)) := ⟨_, rfl, Lib.hid (by omega)⟩
      have MB0 : MB ≠ 0 := by have := HMB.out; omega
      have MB1 : 0 < MB := by have := HMB.out; omega
      obtain ⟨Q, hQ, HQ, Q0, Q1⟩ : ∃ x, (1000000000000000000 : Int) / MB = x ∧ Hid (x = ((1000000000000000000 / b.natAbs : Nat) : Int)) ∧ 0 ≤ x ∧ x ≤ 1000000000000000000 := by
        have h1 := HMB.out
        refine ⟨_, rfl, Lib.hid (by rw [h1]; rfl), ?_, ?_⟩
        · exact Int.ediv_nonneg (by omega) (by omega)
        · exact Int.ediv_le_self _ (by omega)
      have hQt : (1000000000000000000 : Int).tdiv MB = Q := by rw [← hQ]; exact Int.tdiv_eq_ediv_of_nonneg (by omega)
      have wQ : IntKind.i64.wrap Q = Q := IntWalk.i64_in _ (by omega)
      have hiff : (a * b).natAbs ≤ 1000000000000000000 ↔ ¬ Q < MA := by
        rw [HMA.out, HQ.out, Int.natAbs_mul, ← Nat.le_div_iff_mul_le (by omega)]
        omega
      by_cases c : Q < MA
      · rw [if_neg (fun q => (hiff.1 q) c)] at hrV
        rw [decide_eq_false (fun q => (hiff.1 q) c)] at hrB
        subst hrV hrB
        clear hiff
        go_enter Tryz.func108, Tryz.ntmps108
        go_wp2
        go_ret2
        exact ⟨rfl, rfl⟩
      · have hle := hiff.2 c
        rw [if_pos hle] at hrV
        rw [decide_eq_true hle] at hrB
        have wp : IntKind.i64.wrap (a * b) = rV := by rw [← hrV]; exact IntWalk.i64_in _ (by omega)
        have wp2 : wrap64 (a * b) = rV := (IntWalk.i64_left (a * b)).symm.trans wp
        subst hrB
        clear hiff hle hrV
        go_enter Tryz.func108, Tryz.ntmps108
        go_wp2
        go_ret2
        exact ⟨rfl, rfl⟩
theorem l09Base_any (p c h : Int) (S : Nat) (hS : S ≤ 6) (w : World) :
    Calls Tryz.prog 76 #[.agg #[.int .i64 p, .int .i64 c, .int .i64 h, .int .i64 (S : Int)]] w fun e w' => e = .returned (.int .i64 ((S * S : Nat) : Int)) ∧ Below w.heap.size w w' := by
  have BV := Blk.new w #[.int .i64 p, .int .i64 c, .int .i64 h, .int .i64 (S : Int)] 25
  have hb : Below w.heap.size w (w.alloc (.cells #[.int .i64 p, .int .i64 c, .int .i64 h, .int .i64 (S : Int)] 25)) := (Below.refl _ _).alloc (Nat.le_refl _) _
  have hle : S * S ≤ 6 * 6 := Nat.mul_le_mul hS hS
  obtain ⟨B, wB, hB⟩ : ∃ B : Int, IntKind.i64.wrap ((S : Int) * (S : Int)) = B ∧ ((S * S : Nat) : Int) = B := by
    refine ⟨((S * S : Nat) : Int), ?_, rfl⟩
    rw [← Int.natCast_mul]
    exact IntWalk.i64_in _ (by omega)
  rw [hB]
  obtain ⟨x0, x1, x2, x3, xf, xl⟩ := BV.four
  clear hle hS hB
  go_enter Tryz.func76, Tryz.ntmps76
  go_wp2
  go_ret
  exact ⟨rfl, hb⟩
end Go.Proofs.YtnlclmlnpkncoaaGreat
