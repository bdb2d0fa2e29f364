/- Texts of a proof, laid together. -/
import Derived.Test.YtnlclmlnpkncoaaGreatW28
import Derived.Test.YtnlclmlnpkncoaaGreatW29
import Derived.Test.YtnlclmlnpkncoaaGreatW19
import Derived.Test.YtnlclmlnpkncoaaGreatW07
import Derived.Test.YtnlclmlnpkncoaaGreatW02
import Derived.Laws.AppendOwn
namespace Go.Proofs.YtnlclmlnpkncoaaGreat
open Go.ChangeShapes Go.WideShapes Go.ChangeAt Go.RowKit
set_option linter.unusedVariables false
set_option linter.unusedSimpArgs false
set_option maxRecDepth 4000
def xsL (S : Nat) (os : List (Option Int)) : List Rl := os.map fun o => ((exO S o).1, (exO S o).2.1)
def xsV (S : Nat) (os : List (Option Int)) : List Rl × Int := if os.all Option.isSome = true then (xsL S os, 0) else ([], 3)
def XGot (v : List Rl × Int) (w : World) (e : Ending) (w' : World) : Prop := ∃ a k, e = .returned (.tuple #[.slice a v.1.length k, .int .i64 v.2]) ∧ OXl w.heap.size w'.heap.size w' a v.1 ∧ Below w.heap.size w w'
abbrev ORow (w : World) (g : Nat) (l : List Rl) : Prop := VRow w g (rlsC l) 67
theorem ORow.two {w : World} {g : Nat} {l : List Rl} (h : ORow w g l) (k : Nat) (s : Rl) (hk : l[k]? = some s) : w.cell? ⟨g, k * 2, none⟩ = some (.int .i64 s.1) ∧ w.cell? ⟨g, k * 2 + 1, none⟩ = some (.int .i64 s.2) :=
  ⟨h.cell _ _ (by have := rlsC_at l k s hk 0 (by omega); simpa [rlC] using this), h.cell _ _ (by have := rlsC_at l k s hk 1 (by omega); simpa [rlC] using this)⟩
def PVs (S : Nat) (os : List (Option Int)) (l : List Rl) : Prop := os.length = l.length ∧ ∀ (i : Nat) (o : Option Int) (y : Rl), os[i]? = some o → l[i]? = some y → PV S o y.1 y.2 ∧ (-1000000000000000000 ≤ y.1 ∧ y.1 ≤ 1000000000000000000) ∧ ∀ x, o = some x → -1000000000000000000 ≤ x ∧ x ≤ 1000000000000000000
theorem exO_some {S : Nat} (hS : 1 ≤ S ∧ S ≤ 6) {x : Int} (hx : -1000000000000000000 ≤ x ∧ x ≤ 1000000000000000000) : (exO S (some x)).2.2 = 0 := by
  obtain ⟨n, d, e, -⟩ := ex_some hS hx
  unfold exO
  dsimp only
  rw [e]
  rfl
set_option maxRecDepth 8000 in
set_option maxHeartbeats 1000000 in
theorem exacts_any (t : Tb) (hS : 1 ≤ t.S ∧ t.S ≤ 6) (gp n k : Nat) (os : List (Option Int)) (l : List Rl) (w : World) (hn : l.length = n) (hle : n ≤ 1048576) (hI : TabI t w) (hp : PVs t.S os l) (hR : ORow w gp l) :
    Calls Tryz.prog 27 #[.pointer (some ⟨t.g, 0, none⟩), .slice (some ⟨gp, 0, none⟩) n k] w (XGot (xsV t.S os) w) := by
  obtain ⟨i0, hi, hz0, hz1, hz2⟩ := info_parts infoEx
  have n0 : (n : Int) ≤ 1048576 := by omega
  have HR := Lib.hid hR
  have HN := Lib.hid hn
  have HP := Lib.hid hp
  have HI := Lib.hid hI
  have HXL := Lib.hid (show (xsL t.S os).length = n by unfold xsL; rw [List.length_map, hp.1, hn])
  clear hR hn hp hI
  go_enter Tryz.func27, Tryz.ntmps27
  go_wp2_with (at_make; refine wpList_make_full _ rfl _ _ 29 rfl w.heap.size 35 i0 (.agg #[.int .i64 0, .int .i64 0]) 2 Tryz.underlying29 hi hz0 hz1 .i64 .i64 (n : Int) (n : Int) n rfl rfl rfl rfl (by rw [hz2]; omega) (by unfold maxLen; omega) (Nat.le_refl _) ?_; intro w2 hO hg)
  have hO2 : w2.ownsRow w.heap.size 35 2 (.slice (some ⟨w.heap.size, 0, none⟩) n n) n (rlsC (List.replicate n (0, 0))) := by
    have := made_exs n
    rw [← this]
    exact hO
  have hb2 : Below w.heap.size w w2 := ⟨hg.os, hg.tape, hg.output, hg.size, fun k hk => hg.block k hk (by simp)⟩
  obtain ⟨-, ⟨hno, -⟩ | ⟨g, cp, cur, hv, -, hh, hc, -, hs_, ht⟩⟩ := hO2
  · simp at hno
  simp at hv
  obtain ⟨hv, -⟩ := hv
  subst hv
  have RR : XRow w2 w.heap.size (List.replicate n (0, 0)) := ⟨cur, hh, by rw [rlsC_length, List.length_replicate, hs_]; exact Nat.mul_le_mul_right _ hc, by rw [rlsC_length, List.length_replicate]; exact ht⟩
  clear hg hO hh hc hs_ ht
  go_loopg [16] n (fun m q16 wr => ∃ k : Nat, k ≤ n ∧ m = n - k ∧ q16 = .int .i64 (k : Int) ∧ XRow wr w.heap.size ((xsL t.S os).take k ++ List.replicate (n - k) (0, 0)) ∧ (∀ i o, i < k → os[i]? = some o → o.isSome = true) ∧ Below w.heap.size w wr)
  case atStart => exact ⟨0, by omega, by omega, rfl, by simpa using RR, fun i o h => by omega, hb2⟩
  case round =>
    clear RR hb2
    obtain ⟨k, hk, hm, rfl, RR, hsm, hb⟩ := hrel
    have HSM := Lib.hid hsm
    clear hsm
    by_cases hlt : k < n
    · have hlt' : (k : Int) < (n : Int) := by omega
      have hk0 : (0 : Int) ≤ (k : Int) := by omega
      obtain ⟨⟨y, cd⟩, hs⟩ : ∃ s, l[k]? = some s := ⟨_, List.getElem?_eq_getElem (by rw [HN.out]; exact hlt)⟩
      obtain ⟨oj, ho⟩ : ∃ o, os[k]? = some o := ⟨_, List.getElem?_eq_getElem (by rw [HP.out.1, HN.out]; exact hlt)⟩
      obtain ⟨hpv, hyb, hob⟩ := HP.out.2 k oj _ ho hs
      dsimp only at hpv hyb
      obtain ⟨c0, c1⟩ := ORow.two (VRow.below HR.out hb) k _ hs
      dsimp only at c0 c1
      have HO := Lib.hid ho
      have HOB := Lib.hid hob
      have HPV := Lib.hid hpv
      have HE := Lib.hid (fun W (q : TabI t W) => exact_any t hS y cd hyb W q)
      clear hs ho hpv hyb hob
      go_wp2_with fail
      have hal : Below wr.heap.size wr (wr.alloc (.cells #[.int .i64 y, .int .i64 cd] 67)) := (Below.refl _ _).alloc (Nat.le_refl _) _
      have hbA := chain hb hal
      replace RR := VRow.below RR hal
      clear hal hb c0 c1
      generalize (wr.alloc (.cells #[.int .i64 y, .int .i64 cd] 67)) = wA at *
      refine (HE.out _ (HI.out.below hbA)).mono ?_
      rintro e w3 ⟨rfl, hq⟩
      rw [PV.ex HPV.out]
      replace RR := VRow.below RR hq
      have hb := chain hbA hq
      clear hq hbA HE HPV
      obtain ⟨⟨r1, r2, r3⟩, hv⟩ : ∃ r, exO t.S oj = r := ⟨_, rfl⟩
      rw [hv]
      dsimp only [xoV]
      have hal : Below w3.heap.size w3 (w3.alloc (.cells #[.int .i64 r1, .int .i64 r2] 35)) := (Below.refl _ _).alloc (Nat.le_refl _) _
      have BX := Blk.new w3 #[.int .i64 r1, .int .i64 r2] 35
      replace RR := VRow.below RR hal
      replace hb := chain hb hal
      have hRl := VRow.lt RR
      clear hal
      cases oj with
      | none =>
        have hv3 : r3 = 3 := by
          have := congrArg (fun r => r.2.2) hv
          exact this.symm
        subst hv3
        have hall : os.all Option.isSome = false := by
          rw [List.all_eq_false]
          exact ⟨none, List.mem_of_getElem? HO.out, by simp⟩
        have hx : xsV t.S os = ([], 3) := by rw [xsV, hall]; rfl
        have HX := Lib.hid hx
        clear hv hall hx RR HO HOB hRl
        go_wp2_with fail
        go_ret2
        rw [HX.out]
        exact ⟨none, 0, rfl, (.inl ⟨rfl, rfl⟩), hb⟩
      | some x =>
        have hv3 : r3 = 0 := by
          have := congrArg (fun r => r.2.2) hv
          dsimp only at this
          rw [← this]
          exact exO_some hS (HOB.out x rfl)
        subst hv3
        have hk2 : (xsL t.S os)[k]? = some (r1, r2) := by
          unfold xsL
          rw [List.getElem?_map, HO.out]
          dsimp only [Option.map]
          rw [hv]
        have hst := copyX_step (xsL t.S os) k (r1, r2) hk2
        rw [HXL.out] at hst
        have hlen : ((xsL t.S os).take k ++ List.replicate (n - k) ((0, 0) : Rl)).length = n := by
          rw [List.length_append, List.length_take, List.length_replicate, HXL.out]
          omega
        have hset := rlsC_set2 ((xsL t.S os).take k ++ List.replicate (n - k) ((0, 0) : Rl)) k (r1, r2) (by omega)
        obtain ⟨s', hs'⟩ : ∃ z, ((xsL t.S os).take k ++ List.replicate (n - k) ((0, 0) : Rl))[k]? = some z := ⟨_, List.getElem?_eq_getElem (by omega)⟩
        dsimp only at hset
        obtain ⟨d0, d1⟩ := XRow.two RR k s' hs'
        have f0 := fun j => VRow.free RR j
        have R2 := Lib.hid (((VRow.set RR (k * 2) (.int .i64 r1)).set (k * 2 + 1) (.int .i64 r2)).wf (hset.symm.trans (congrArg rlsC hst)))
        have hbn := Lib.hid ((hb.setCell (p := ⟨w.heap.size, k * 2, none⟩) (Nat.le_refl _) (.int .i64 r1)).setCell (p := ⟨w.heap.size, k * 2 + 1, none⟩) (Nat.le_refl _) (.int .i64 r2))
        have HSM2 : Hid (∀ i o, i < k + 1 → os[i]? = some o → o.isSome = true) := Lib.hid fun i o h1 h2 => by
          rcases Nat.lt_or_ge i k with h | h
          · exact HSM.out i o h h2
          · obtain rfl : i = k := by omega
            rw [HO.out] at h2
            injection h2 with h2
            subst h2
            rfl
        obtain ⟨b0, b1, bf, bl⟩ := BX.two
        obtain ⟨z9, hz9⟩ : ∃ z, w3.heap.size = z := ⟨_, rfl⟩
        clear hb hst hset hs' hlen hv hk2 RR
        go_wp2_with fail
        go_roundg (n - (k + 1))
        case measure => omega
        case rel => exact ⟨k + 1, by omega, rfl, by go_num, R2.out, HSM2.out, hbn.out⟩
    · obtain rfl : k = n := by omega
      have hRl := VRow.lt RR
      have RR2 : XRow wr w.heap.size (xsL t.S os) := VRow.wf RR (show _ = rlsC (xsL t.S os) by rw [Nat.sub_self, List.replicate_zero, List.append_nil, List.take_of_length_le (by rw [HXL.out]; exact Nat.le_refl _)])
      have hall : os.all Option.isSome = true := by
        rw [List.all_eq_true]
        intro o ho
        obtain ⟨i, hi2, he⟩ := List.mem_iff_getElem.1 ho
        exact HSM.out i o (by rw [← HN.out, ← HP.out.1]; exact hi2) (by rw [List.getElem?_eq_getElem hi2, he])
      have hx : xsV t.S os = (xsL t.S os, 0) := by rw [xsV, if_pos hall]
      have HX := Lib.hid hx
      clear RR hall hx
      go_wp2
      go_ret2
      rw [HX.out]
      exact ⟨some ⟨w.heap.size, 0, none⟩, k, by dsimp only; rw [HXL.out]; rfl, .inr ⟨w.heap.size, rfl, Nat.le_refl _, hRl, RR2⟩, hb⟩
end Go.Proofs.YtnlclmlnpkncoaaGreat
namespace Go.Proofs.YtnlclmlnpkncoaaGreat
open Go.ChangeShapes Go.WideShapes Go.ChangeAt Go.RowKit
set_option linter.unusedVariables false
theorem bstA_all {T : Int} {f : List Int → Option Int} {L : List (List Int)} : ∀ {j : Nat} {q : Nat × Int}, bstA T f L j = some q → ∀ i, i < j → ∃ x, f (L.getD i []) = some x ∧ T - x ≤ q.2
  | 0, q, h, i, hi => by omega
  | j + 1, q, h, i, hi => by
    rw [bstA] at h
    cases e : bstA T f L j with
    | none => rw [e] at h; cases h
    | some q0 =>
      rw [e] at h
      dsimp only at h
      cases e1 : f (L.getD j []) with
      | none => rw [e1] at h; cases h
      | some x =>
        rw [e1] at h
        dsimp only at h
        have hq : q0.2 ≤ q.2 ∧ T - x ≤ q.2 := by
          split at h <;> (simp only [Option.some.injEq] at h; subst h; (try dsimp only); omega)
        by_cases hij : i = j
        · subst hij
          exact ⟨x, e1, hq.2⟩
        · obtain ⟨y, h1, h2⟩ := bstA_all e i (by omega)
          exact ⟨y, h1, by omega⟩
theorem bstA_at {T : Int} {f : List Int → Option Int} {L : List (List Int)} (hf : ∀ z x, z ∈ L → f z = some x → x ≤ T) : ∀ {j : Nat} {q : Nat × Int}, j ≤ L.length → bstA T f L j = some q → (q.2 = -1 ∧ j = 0) ∨ ∃ x, f (L.getD q.1 []) = some x ∧ q.2 = T - x ∧ q.1 < j
  | 0, q, hj, h => by
    rw [bstA] at h
    cases h
    exact .inl ⟨rfl, rfl⟩
  | j + 1, q, hj, h => by
    rw [bstA] at h
    cases e : bstA T f L j with
    | none => rw [e] at h; cases h
    | some q0 =>
      rw [e] at h
      dsimp only at h
      cases e1 : f (L.getD j []) with
      | none => rw [e1] at h; cases h
      | some x =>
        rw [e1] at h
        dsimp only at h
        have hx : x ≤ T := hf _ x (by rw [List.getD_eq_getElem?_getD, List.getElem?_eq_getElem (by omega : j < L.length)]; exact List.getElem_mem _) e1
        have ih := bstA_at hf (by omega) e
        split at h
        · simp only [Option.some.injEq] at h
          subst h
          exact .inr ⟨x, e1, rfl, by omega⟩
        · simp only [Option.some.injEq] at h
          subst h
          rcases ih with ⟨h1, h2⟩ | ⟨y, h1, h2, h3⟩
          · omega
          · exact .inr ⟨y, h1, h2, by omega⟩
theorem exO_is {S : Nat} (hS : 1 ≤ S ∧ S ≤ 6) {x : Int} (hx : -1000000000000000000 ≤ x ∧ x ≤ 1000000000000000000) : ∃ n d, exO S (some x) = (n, d, 0) ∧ IsP S n d x := by
  obtain ⟨n, d, e, h⟩ := ex_some hS hx
  refine ⟨n, d, ?_, h⟩
  unfold exO
  dsimp only
  rw [e]
  rfl
theorem exO_sign {S : Nat} (hS : 1 ≤ S ∧ S ≤ 6) {x : Int} (h0 : 0 ≤ x) (h1 : x ≤ 1000000000000000000) : 0 ≤ (exO S (some x)).1 ∧ ((exO S (some x)).1 = 0 ↔ x = 0) := by
  obtain ⟨n, d, e, -, h⟩ := exO_is hS (x := x) (by omega)
  rw [e]
  dsimp only
  have hp : (0 : Int) < ((scN S (dm S - d.toNat) : Nat) : Int) := by have := scN_pos hS.1 (dm S - d.toNat); omega
  constructor
  · by_cases q : 0 ≤ n
    · exact q
    · have := Int.mul_neg_of_neg_of_pos (by omega : n < 0) hp
      omega
  · constructor
    · intro q
      rw [q, Int.zero_mul] at h
      exact h.symm
    · intro q
      rw [q] at h
      rcases Int.mul_eq_zero.1 h with q | q
      · exact q
      · omega
theorem exO_inj {S : Nat} (hS : 1 ≤ S ∧ S ≤ 6) {x y : Int} (hx : -1000000000000000000 ≤ x ∧ x ≤ 1000000000000000000) (hy : -1000000000000000000 ≤ y ∧ y ≤ 1000000000000000000) :
    ((exO S (some x)).1 = (exO S (some y)).1 ∧ (exO S (some x)).2.1 = (exO S (some y)).2.1) ↔ x = y := by
  obtain ⟨n, d, e, -, h⟩ := exO_is hS hx
  obtain ⟨m, k, e2, -, h2⟩ := exO_is hS hy
  constructor
  · rintro ⟨q1, q2⟩
    rw [e, e2] at q1 q2
    dsimp only at q1 q2
    rw [← h, ← h2, q1, q2]
  · rintro rfl
    exact ⟨rfl, rfl⟩
theorem exO_zero {S : Nat} (hS : 1 ≤ S ∧ S ≤ 6) : exO S (some 0) = (0, 0, 0) := by
  have hv : xvB S 0 0 = true := by
    have := nn_range hS
    simp [xvB]
    omega
  have h := ex_of hS (n := 0) (d := 0) (P := 0) ⟨hv, by simp⟩
  unfold exO
  dsimp only
  rw [h]
  rfl
theorem losses {S : Nat} {xs ys : List Int} {ra rb : Int} {q : Nat × Int} (hf : ∀ z x, z ∈ resI xs (ordersP ra rb) → wc S ys z = some x → x ≤ tp S) (hL : 0 < (resI xs (ordersP ra rb)).length) (hq : bst (tp S) (wc S ys) (resI xs (ordersP ra rb)) = some q) :
    q.1 < (resI xs (ordersP ra rb)).length ∧ lsO S xs ys ((resI xs (ordersP ra rb)).getD q.1 []) ra rb = some 0 ∧
    ∀ i, i < (resI xs (ordersP ra rb)).length → ∃ x, wc S ys ((resI xs (ordersP ra rb)).getD i []) = some x ∧ lsO S xs ys ((resI xs (ordersP ra rb)).getD i []) ra rb = some (q.2 - (tp S - x)) ∧ 0 ≤ q.2 - (tp S - x) := by
  have hq0 := hq
  unfold bst at hq
  have h1 := bstA_all hq
  rcases bstA_at hf (Nat.le_refl _) hq with ⟨-, e⟩ | ⟨y, h2, h3, h4⟩
  · omega
  · refine ⟨h4, ?_, fun i hi => ?_⟩
    · unfold lsO
      rw [hq0, h2]
      simp only [Option.map_some, Option.bind_some, Option.some.injEq]
      omega
    · obtain ⟨x, e, hx⟩ := h1 i hi
      refine ⟨x, e, ?_, by omega⟩
      unfold lsO
      rw [hq0, e]
      simp only [Option.map_some, Option.bind_some]
end Go.Proofs.YtnlclmlnpkncoaaGreat
namespace Go.Proofs.YtnlclmlnpkncoaaGreat
open Go.ChangeShapes Go.WideShapes Go.ChangeAt Go.RowKit
set_option linter.unusedVariables false
set_option linter.unusedSimpArgs false
set_option maxRecDepth 4000
def OwnO (w : World) (base : Nat) (v : Value) (l : List Rl) : Prop := w.ownsRow base 67 2 v l.length (rlsC l)
theorem OwnO.form {w : World} {base : Nat} {v : Value} {l : List Rl} (h : OwnO w base v l) : ∃ a k, v = .slice a l.length k := by
  rcases h.2 with ⟨h1, h2⟩ | ⟨g, cap, cur, h1, _⟩
  · exact ⟨none, 0, by rw [h1, h2]⟩
  · exact ⟨some ⟨g, 0, none⟩, cap, h1⟩
theorem OwnO.row {w : World} {base : Nat} {a : Option Addr} {n k : Nat} {l : List Rl} (h : OwnO w base (.slice a n k) l) : n = l.length ∧ ((a = none ∧ l = []) ∨ ∃ g, a = some ⟨g, 0, none⟩ ∧ VRow w g (rlsC l) 67) := by
  obtain ⟨hl, h1 | ⟨g, cap, cur, hv, hb, hh, hc, hm, hs, ht⟩⟩ := h
  · obtain ⟨h1, h2⟩ := h1
    simp at h1
    exact ⟨by omega, .inl ⟨h1.1, List.eq_nil_of_length_eq_zero h2⟩⟩
  · simp at hv
    obtain ⟨rfl, rfl, rfl⟩ := hv
    exact ⟨rfl, .inr ⟨g, rfl, cur, hh, by rw [hl, hs]; exact Nat.mul_le_mul_right _ hc, by rw [hl]; exact ht⟩⟩
theorem OwnO.alloc {w : World} {base : Nat} {v : Value} {l : List Rl} (h : OwnO w base v l) (o : Obj) : OwnO (w.alloc o) base v l := World.ownsRow.alloc h o
theorem OwnO.start (w : World) : OwnO (w.alloc (.cells #[] 67)) w.heap.size (.slice (some ⟨w.heap.size, 0, none⟩) 0 0) [] :=
  ⟨rfl, .inr ⟨w.heap.size, 0, #[], rfl, Nat.le_refl _, Blk.new w #[] _, Nat.le_refl _, by unfold maxLen; omega, rfl, rfl⟩⟩
theorem OwnO.nil (w : World) (base : Nat) : OwnO w base (.slice none 0 0) [] := World.ownsRow_nil w base _ _
theorem infoO9 : (Tryz.prog.info? 67).map (fun i => (i.zero, i.size, i.bytes)) = some (some (.agg #[.int .i64 0, .int .i64 0]), 2, 16) := by kernel_rfl
theorem OwnO.by {w w' : World} {base : Nat} {v : Value} {l : List Rl} (h : OwnO w base v l) (k : ∀ i, base ≤ i → i < w.heap.size → w'.heap[i]? = w.heap[i]?) : OwnO w' base v l := by
  obtain ⟨hl, h1 | ⟨g, cap, cur, hv, hb, hh, hc⟩⟩ := h
  · exact ⟨hl, .inl h1⟩
  · exact ⟨hl, .inr ⟨g, cap, cur, hv, hb, (k g hb (Array.getElem?_eq_some_iff.1 hh).1).trans hh, hc⟩⟩
theorem run_append_whereO {P : Program} (w : World) (base : Nat) (t ty e : TypeId) (i : TypeInfo) (z : Value) (size bytes : Nat) (ht : P.underlying t = some (.slice e)) (hi : P.info? e = some i) (hz : i.zero = some z)
    (hsize : i.size = size) (hby : i.bytes = bytes) (hzs : z.cells.size = size) (hsz : 0 < size)
    (v : Value) (n : Nat) (xs : List Value) (hown : w.ownsRow base e size v n xs)
    (a : Addr) (m c : Nat) (news : List Value) (hl : news.length = m * size) (hnews : ∀ j u, news[j]? = some u → w.cell? (a.add j) = some u) (h1 : ∀ u ∈ news, u.oneCell' = true)
    (h63 : n + m ≤ maxLen) (hbytes : (n + m) * bytes ≤ 140737488355328) (hbase : base ≤ w.heap.size) :
    ∃ v' w', (Builtin.append_ #[t, t] ty #[v, .slice (some a) m c]).run P w = .ok v' w' ∧ w'.ownsRow base e size v' (n + m) (xs ++ news) ∧ w.grownBy w' v.ownBlock ∧ (v'.ownBlock = v.ownBlock ∨ v'.ownBlock = some w.heap.size) := by
  obtain ⟨v', w', hr, h2, h3, h4⟩ := run_append_own (P := P) w base t ty e i z size bytes ht hi hz hsize hby hzs hsz v n xs hown a m c news hl hnews h1 h63 hbytes hbase
  refine ⟨v', w', hr, h2, h3, ?_⟩
  subst hsize hby
  have hmx : n + m ≤ 9223372036854775807 := by simp only [maxLen] at h63; omega
  rcases hown.2 with ⟨rfl, rfl⟩ | ⟨g, cap, cur, rfl, hbg, hg, hnc, hcm, hcs, htake⟩
  · by_cases hm : m = 0
    · exact .inl (by rw [h4.2 ⟨rfl, hm⟩])
    · have hq := run_append_nil (P := P) w t ty e i z ht hi hz a m c news hl hnews (by omega) (by omega) (by have hb := hbytes; simp only [Nat.zero_add] at hb; omega)
      rw [hr] at hq
      injection hq with hv hw
      exact .inr (by rw [hv]; rfl)
  · by_cases hroom : n + m ≤ cap
    · have hfit : n * i.size + news.length ≤ cur.size := by rw [hl, hcs, ← Nat.add_mul]; exact Nat.mul_le_mul_right _ hroom
      have hq := run_append_room (P := P) w t ty e i ht hi g n cap cur hg a m c news hl hnews h1 hroom hfit
      rw [hr] at hq
      injection hq with hv hw
      exact .inl (by rw [hv]; rfl)
    · have hq := run_append_grow (P := P) w t ty e i z ht hi hz ⟨g, 0, none⟩ n cap xs hown.1 (hown.cells (g := g) rfl) a m c news hl hnews (by omega) (by omega) (growslice_fits (by omega) hbytes)
      rw [hr] at hq
      injection hq with hv hw
      exact .inr (by rw [hv]; rfl)
theorem wp_pushOW {ops : Array Oper} {rest : List Oper} {o : Oper} {a : Act} {Q : Exit → Act → World → Prop} (hgd : o.guard = none) (s x : Operand)
    (ho : o.op = .call { callee := .builtin .append, args := #[s, x], argTypes := #[58, 58] })
    (base : Nat) (v : Value) (l : List Rl) (hs : a.eval s = v) {w0 : World} (hown : OwnO w0 base v l) (u : Rl)
    {zz : Nat} (hx : a.eval x = .slice (some ⟨zz, 0, none⟩) 1 1) (hzz : w0.heap.size = zz) (hl : l.length ≤ 1048576) (hbase : base ≤ w0.heap.size)
    (h : ∀ v' w', OwnO w' base v' (l ++ [u]) → Below base w0 w' → (∀ k, k < w0.heap.size → v.ownBlock ≠ some k → w'.heap[k]? = w0.heap[k]?) → (v'.ownBlock = v.ownBlock ∨ v'.ownBlock = some (w0.heap.size + 1)) → wpList Tryz.prog ops Q rest (a.put o.dst v') w') : wpList Tryz.prog ops Q (o :: rest) a (w0.alloc (.cells #[.int .i64 u.1, .int .i64 u.2] 67)) := by
  subst hzz
  obtain ⟨i0, hi, hz0, hz1, hz2⟩ := info_parts infoO9
  have hown0 : w0.ownsRow base 67 2 v l.length (rlsC l) := hown
  obtain ⟨v', w', hr, hown', hgrow, hwh⟩ := run_append_whereO (P := Tryz.prog) (w0.alloc (.cells #[.int .i64 u.1, .int .i64 u.2] 67)) base 58 o.type 67 i0 _ 2 16 Tryz.underlying58 hi hz0 hz1 hz2 rfl (by decide) v l.length (rlsC l) (hown0.alloc _) ⟨w0.heap.size, 0, none⟩ 1 1 (rlC u) (by simp [rlC])
    (World.news_of_block (cs := #[.int .i64 u.1, .int .i64 u.2]) (Blk.new w0 _ 67)) (fun y hy => by simp [rlC] at hy; rcases hy with rfl | rfl <;> rfl) (by unfold maxLen; omega) (by omega) (by simp; omega)
  refine wpList_plain hgd fun _ hK => ?_
  unfold Oper.wp execOp
  simp only [ho, resolve, invoke, builtin, Sem.run_bind, Sem.run_pure, Result.andThen_ok, List.map_toArray, List.map_cons, List.map_nil, hs, hx, hr]
  refine hK _ _ (h v' w' ?_ (((Below.refl base w0).alloc hbase _).grown hgrow (by simp; omega) (fun k hk => (hown0.lt k hk).1)) (fun k hk hne => ?_) ?_)
  · show w'.ownsRow base 67 2 _ (l ++ [u]).length (rlsC (l ++ [u]))
    rw [List.length_append, rlsC_append]
    simpa [rlsC] using hown'
  · rw [hgrow.block k (by simp; omega) (fun hh => hne hh.symm), Below.heap_alloc _ _ _ hk]
  · rcases hwh with e | e
    · exact .inl e
    · exact .inr (by rw [e]; simp)
end Go.Proofs.YtnlclmlnpkncoaaGreat
