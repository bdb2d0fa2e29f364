/- Texts of a proof, laid together. -/
import Derived.Test.YtlnljfbdicgkcaaGreatV03
import Derived.Test.YtlnljfbdicgkcaaGreatV02
import Derived.BigQuiet
import Derived.Deep.QuietTactic
import Derived.Test.YtlnljfbdicgkcaaGreatV01
import Derived.OwnWalk
import Derived.Deep.AppendLies
import Derived.ArgAppend
import Derived.Deep.RegionHeld3
import Derived.WalkMore
import Derived.Lib.SliceRun
import Derived.Outline
import Derived.IntWalk
import Derived.StillTailTactics
namespace Go.Proofs.YtlnljfbdicgkcaaGreat
open Go.ChangeShapes Go.WideShapes Go.ChangeAt Go.RowKit
set_option linter.unusedVariables false
set_option linter.unusedSimpArgs false
set_option maxRecDepth 4000
theorem drop_cons (ns : List Nat) (k : Nat) (h : k < ns.length) : ns.drop k = ns.getD k 0 :: ns.drop (k + 1) := by
  rw [List.drop_eq_getElem_cons h]; simp [h]
theorem num_step (ns : List Nat) (k L N T n : Nat) (hn : ns.length = n) (h : k < n) (hT : N + numL (ns.drop k) L = T) (hs : (ns.drop k).sum ≤ L) :
    ∃ x, ns.getD k 0 = x ∧ x ≤ L ∧ N + blk (n - 1 - k) L x + numL (ns.drop (k + 1)) (L - x) = T ∧ (ns.drop (k + 1)).sum ≤ L - x := by
  subst hn
  rw [drop_cons ns k h] at hT hs
  simp only [List.sum_cons] at hs
  refine ⟨ns.getD k 0, rfl, by omega, ?_, by omega⟩
  rw [numL, List.length_drop] at hT
  rw [show ns.length - 1 - k = ns.length - (k + 1) by omega]
  omega
theorem blk_upto (b l : Nat) {i j : Nat} (h : i ≤ j) : blk b l i ≤ blk b l j := by
  by_cases e : i = j
  · subst e; omega
  · have := blk_mono b l (show i < j by omega); omega
def nats (xs : List Int) : List Nat := xs.map Int.toNat
theorem nats_length (xs : List Int) : (nats xs).length = xs.length := by simp [nats]
theorem nats_getD (xs : List Int) (k : Nat) (h : k < xs.length) : (nats xs).getD k 0 = (xs.getD k 0).toNat := by simp [nats, h]
theorem nats_sum : ∀ (xs : List Int), (∀ x ∈ xs, 0 ≤ x) → ((nats xs).sum : Int) = xs.sum
  | [], _ => rfl
  | x :: xs, h => by
    have h1 := h x (by simp)
    have h2 := nats_sum xs (fun y hy => h y (by simp [hy]))
    simp only [nats, List.map_cons, List.sum_cons] at h2 ⊢
    omega
theorem side_nats {p c : Int} {xs : List Int} (g : sideB p c xs = true) (c0 : 0 ≤ c) : (nats xs).length = xs.length ∧ (nats xs).sum ≤ c.toNat ∧ ∀ k, k < xs.length → xs.getD k 0 = ((nats xs).getD k 0 : Int) := by
  obtain ⟨h1, h2, h3⟩ := sideB_iff.1 g
  have hs := nats_sum xs (fun x hx => (h2 x hx).1)
  refine ⟨nats_length xs, by omega, fun k hk => ?_⟩
  rw [nats_getD xs k hk]
  have := (h2 _ (getD_mem hk)).1
  omega
end Go.Proofs.YtlnljfbdicgkcaaGreat
namespace Go.Proofs.YtlnljfbdicgkcaaGreat
open Go.ChangeShapes Go.WideShapes Go.ChangeAt Go.RowKit
set_option linter.unusedVariables false
set_option linter.unusedSimpArgs false
def OBd (lo hi : Nat) (w : World) (a1 a2 : Option Addr) (xs ys : List Int) : Prop :=
  (a1 = none ∧ a2 = none ∧ xs = [] ∧ ys = []) ∨
  ∃ g1 g2, a1 = some ⟨g1, 0, none⟩ ∧ a2 = some ⟨g2, 0, none⟩ ∧ g1 ≠ g2 ∧ lo ≤ g1 ∧ g1 < hi ∧ lo ≤ g2 ∧ g2 < hi ∧ Row w g1 xs ∧ Row w g2 ys
structure Same (lo hi : Nat) (w w' : World) : Prop where
  os : w'.os = w.os
  tape : w'.tape = w.tape
  output : w'.output = w.output
  size : w.heap.size ≤ w'.heap.size
  block : ∀ i, i < w.heap.size → (i < lo ∨ hi ≤ i) → w'.heap[i]? = w.heap[i]?
theorem Blk.same {lo hi g : Nat} {w w' : World} {vs : Array Value} {t : TypeId} (h : Blk w g vs t) (hs : Same lo hi w w') (hg : g < lo ∨ hi ≤ g) : Blk w' g vs t := (hs.block g h.lt hg).trans h
theorem Row.same {lo hi g : Nat} {w w' : World} {xs : List Int} (h : Row w g xs) (hs : Same lo hi w w') (hg : g < lo ∨ hi ≤ g) : Row w' g xs := by
  obtain ⟨cur, hB, h1, h2⟩ := h
  exact ⟨cur, hB.same hs hg, h1, h2⟩
theorem below_same {lo hi B : Nat} {w0 w w' : World} (h : Below B w0 w) (hs : Same lo hi w w') (hB : B ≤ lo) (hw : B ≤ w.heap.size) : Below B w0 w' :=
  ⟨hs.os.trans h.os, hs.tape.trans h.tape, hs.output.trans h.output, Nat.le_trans h.size hs.size, fun k hk => (hs.block k (by omega) (.inl (by omega))).trans (h.block k hk)⟩
theorem OBd.below {lo hi : Nat} {w w' : World} {a1 a2 : Option Addr} {xs ys : List Int} (h : OBd lo hi w a1 a2 xs ys) (hb : Below w.heap.size w w') : OBd lo hi w' a1 a2 xs ys := by
  rcases h with h | ⟨g1, g2, e1, e2, hne, b1, b2, b3, b4, r1, r2⟩
  · exact .inl h
  · exact .inr ⟨g1, g2, e1, e2, hne, b1, b2, b3, b4, r1.below hb, r2.below hb⟩
theorem OBd.same {lo hi lo2 hi2 : Nat} {w w' : World} {a1 a2 : Option Addr} {xs ys : List Int} (h : OBd lo2 hi2 w a1 a2 xs ys) (hs : Same lo hi w w') (hd : hi2 ≤ lo ∨ hi ≤ lo2) : OBd lo2 hi2 w' a1 a2 xs ys := by
  rcases h with h | ⟨g1, g2, e1, e2, hne, b1, b2, b3, b4, r1, r2⟩
  · exact .inl h
  · exact .inr ⟨g1, g2, e1, e2, hne, b1, b2, b3, b4, r1.same hs (by omega), r2.same hs (by omega)⟩
theorem markInt64S_nil (cap : Nat) (k : Int) (w : World) :
    Calls Tryz.prog 30 #[.slice none 0 cap, .int .i64 k] w fun e w' => e = .returned (.int .i64 k) ∧ w = w' := by
  go_enter Tryz.func30, Tryz.ntmps30
  go_wp2
  refine wp_loop_rounds 1 ?_
  rw [rounds_succ]
  go_wp2
  go_ret
  exact ⟨rfl, rfl⟩
theorem wpList_append1 {P : Program} {ops : Array Oper} {rest : List Oper} {o : Oper} {a : Act} {Q : Exit → Act → World → Prop} (hgd : o.guard = none) (s x : Operand) (t : TypeId)
    (ho : o.op = .call { callee := .builtin .append, args := #[s, x], argTypes := #[t, t] })
    (base : Nat) (e : TypeId) (i : TypeInfo) (z : Value) (bytes : Nat) (ht : P.underlying t = some (.slice e)) (hi : P.info? e = some i) (hz : i.zero = some z)
    (hsize : i.size = 1) (hby : i.bytes = bytes) (hzs : z.cells.size = 1)
    (v : Value) (n : Nat) (xs : List Value) (hs : a.eval s = v) {w0 : World} (hown : w0.ownsRow base e 1 v n xs) (u : Value)
    (hx : a.eval x = .slice (some ⟨w0.heap.size, 0, none⟩) 1 1) (h1 : u.oneCell' = true)
    (h63 : n + 1 ≤ maxLen) (hbytes : (n + 1) * bytes ≤ 140737488355328) (hbase : base ≤ w0.heap.size)
    (h : ∀ g cap w', w'.ownsRow base e 1 (.slice (some ⟨g, 0, none⟩) (n + 1) cap) (n + 1) (xs ++ [u]) → Below base w0 w' → (∀ k, k < w0.heap.size → v.ownBlock ≠ some k → w'.heap[k]? = w0.heap[k]?) →
      wpList P ops Q rest (a.put o.dst (.slice (some ⟨g, 0, none⟩) (n + 1) cap)) w') : wpList P ops Q (o :: rest) a (w0.alloc (.cells #[u] e)) := by
  refine wpList_append_own _ hgd s x t ho base e i z 1 bytes ht hi hz hsize hby hzs (by decide) v n xs hs (hown.alloc _) ⟨w0.heap.size, 0, none⟩ 1 1 [u] hx rfl
    (World.news_of_block (cs := #[u]) (Blk.new w0 #[u] e)) (fun y hy => by simp at hy; subst hy; exact h1) h63 hbytes (by simp; omega) ?_
  intro v' w' hown' hgrow _
  obtain ⟨g, cap, rfl⟩ := Joins.ownsRow_form hown' (by omega)
  refine h g cap w' hown' (((Below.refl base w0).alloc hbase _).grown hgrow (by simp; omega) (fun k hk => (hown.lt k hk).1)) (fun k hk hne => ?_)
  rw [hgrow.block k (by simp; omega) (fun hh => hne hh.symm), Below.heap_alloc _ _ _ hk]
def OSl (lo hi : Nat) (w : World) (a : Option Addr) (xs : List Int) : Prop :=
  (a = none ∧ xs = []) ∨ ∃ g, a = some ⟨g, 0, none⟩ ∧ lo ≤ g ∧ g < hi ∧ Row w g xs
theorem OSl.irow {lo hi : Nat} {w : World} {a : Option Addr} {xs : List Int} (h : OSl lo hi w a xs) : IRow w a xs := by
  rcases h with ⟨rfl, rfl⟩ | ⟨g, rfl, _, _, r⟩
  · exact IRow.nil _ _
  · exact r.irow
theorem OSl.below {lo hi : Nat} {w w' : World} {a : Option Addr} {xs : List Int} (h : OSl lo hi w a xs) (hb : Below w.heap.size w w') : OSl lo hi w' a xs := by
  rcases h with h | ⟨g, e, h1, h2, r⟩
  · exact .inl h
  · exact .inr ⟨g, e, h1, h2, r.below hb⟩
theorem OSl.drew {lo hi : Nat} {w : World} {a : Option Addr} {xs : List Int} (h : OSl lo hi w a xs) : OSl lo hi w.drew a xs := h
theorem OSl.alloc {lo hi : Nat} {w : World} {a : Option Addr} {xs : List Int} (h : OSl lo hi w a xs) (o : Obj) : OSl lo hi (w.alloc o) a xs := h.below ((Below.refl _ _).alloc (Nat.le_refl _) o)
theorem OBd.drew {lo hi : Nat} {w : World} {a1 a2 : Option Addr} {xs ys : List Int} (h : OBd lo hi w a1 a2 xs ys) : OBd lo hi w.drew a1 a2 xs ys := h
theorem OSl.mono {lo hi lo' hi' : Nat} {w : World} {a : Option Addr} {xs : List Int} (h : OSl lo hi w a xs) (h1 : lo' ≤ lo) (h2 : hi ≤ hi') : OSl lo' hi' w a xs := by
  rcases h with h | ⟨g, e, q1, q2, r⟩
  · exact .inl h
  · exact .inr ⟨g, e, by omega, by omega, r⟩
theorem OSl.same {lo hi lo2 hi2 : Nat} {w w' : World} {a : Option Addr} {xs : List Int} (h : OSl lo2 hi2 w a xs) (hs : Same lo hi w w') (hd : hi2 ≤ lo ∨ hi ≤ lo2) : OSl lo2 hi2 w' a xs := by
  rcases h with h | ⟨g, e, q1, q2, r⟩
  · exact .inl h
  · exact .inr ⟨g, e, q1, q2, r.same hs (by omega)⟩
def SliceGot (xs : List Int) (w : World) (e : Ending) (w' : World) : Prop :=
  ∃ a k, e = .returned (.slice a xs.length k) ∧ OSl w.heap.size w'.heap.size w' a xs ∧ Below w.heap.size w w'
def SliceGot2 (xs : List Int) (r : Int) (w : World) (e : Ending) (w' : World) : Prop :=
  ∃ a k, e = .returned (.tuple #[.slice a xs.length k, .int .i64 r]) ∧ OSl w.heap.size w'.heap.size w' a xs ∧ Below w.heap.size w w'
def Own (w : World) (base : Nat) (v : Value) (xs : List Int) : Prop := w.ownsRow base 2 1 v xs.length (ints xs)
theorem Own.form {w : World} {base : Nat} {v : Value} {xs : List Int} (h : Own w base v xs) : ∃ a k, v = .slice a xs.length k := by
  rcases h.2 with ⟨h1, h2⟩ | ⟨g, cap, cur, h1, _⟩
  · exact ⟨none, 0, by rw [h1, h2]⟩
  · exact ⟨some ⟨g, 0, none⟩, cap, h1⟩
theorem Own.osl {w : World} {base : Nat} {a : Option Addr} {n k : Nat} {xs : List Int} (h : Own w base (.slice a n k) xs) : OSl base w.heap.size w a xs := by
  obtain ⟨hl, h1 | ⟨g, cap, cur, hv, hb, hh, hc, hm, hs, ht⟩⟩ := h
  · obtain ⟨h1, h2⟩ := h1
    simp at h1
    exact .inl ⟨h1.1, List.eq_nil_of_length_eq_zero h2⟩
  · simp at hv
    obtain ⟨rfl, _, rfl⟩ := hv
    exact .inr ⟨g, rfl, hb, (Array.getElem?_eq_some_iff.1 hh).1, cur, hh, by omega, by simpa using ht⟩
theorem Own.alloc {w : World} {base : Nat} {v : Value} {xs : List Int} (h : Own w base v xs) (o : Obj) : Own (w.alloc o) base v xs := World.ownsRow.alloc h o
theorem Own.drew {w : World} {base : Nat} {v : Value} {xs : List Int} (h : Own w base v xs) : Own w.drew base v xs := h
theorem Own.kept {w w' : World} {base : Nat} {v : Value} {xs : List Int} (h : Own w base v xs) (hb : Below w.heap.size w w') : Own w' base v xs :=
  World.ownsRow.kept (row := none) h ⟨hb.os, hb.tape, hb.output, hb.size, fun k hk _ => hb.block k hk⟩ (by
    cases hv : v.ownBlock with
    | none => exact .inl rfl
    | some g => exact .inr (by simp))
theorem Own.start (w : World) : Own (w.alloc (.cells #[] 2)) w.heap.size (.slice (some ⟨w.heap.size, 0, none⟩) 0 0) [] :=
  ⟨rfl, .inr ⟨w.heap.size, 0, #[], rfl, Nat.le_refl _, Blk.new w #[] _, Nat.le_refl _, by unfold maxLen; omega, rfl, rfl⟩⟩
theorem Own.nil (w : World) (base : Nat) : Own w base (.slice none 0 0) [] := World.ownsRow_nil w base _ _
theorem Own.mono {w : World} {base base' : Nat} {v : Value} {xs : List Int} (h : Own w base v xs) (hb : base' ≤ base) : Own w base' v xs := by
  obtain ⟨h1, h2 | ⟨g, cap, cur, q1, q2, q3⟩⟩ := h
  · exact ⟨h1, .inl h2⟩
  · exact ⟨h1, .inr ⟨g, cap, cur, q1, by omega, q3⟩⟩
theorem wp_push {ops : Array Oper} {rest : List Oper} {o : Oper} {a : Act} {Q : Exit → Act → World → Prop} (hgd : o.guard = none) (s x : Operand)
    (ho : o.op = .call { callee := .builtin .append, args := #[s, x], argTypes := #[26, 26] })
    (base : Nat) (v : Value) (xs : List Int) (hs : a.eval s = v) {w0 : World} (hown : Own w0 base v xs) (u : Int)
    (hx : a.eval x = .slice (some ⟨w0.heap.size, 0, none⟩) 1 1) (hl : xs.length ≤ 1048576) (hbase : base ≤ w0.heap.size)
    (h : ∀ v' w', Own w' base v' (xs ++ [u]) → Below base w0 w' → wpList Tryz.prog ops Q rest (a.put o.dst v') w') : wpList Tryz.prog ops Q (o :: rest) a (w0.alloc (.cells #[.int .i64 u] 2)) := by
  obtain ⟨i0, hi, hz0, hz1, hz2⟩ := info_parts infoI64
  refine wpList_append1 hgd s x 26 ho base 2 i0 (.int .i64 0) 8 Tryz.underlying26 hi hz0 hz1 hz2 rfl v xs.length (ints xs) hs hown (.int .i64 u) hx rfl (by unfold maxLen; omega) (by omega) hbase ?_
  intro g cap w' ho' hb' _
  refine h _ w' ?_ hb'
  show w'.ownsRow base 2 1 _ (xs ++ [u]).length (ints (xs ++ [u]))
  rw [show (xs ++ [u]).length = xs.length + 1 by simp, show ints (xs ++ [u]) = ints xs ++ [.int .i64 u] by simp [ints]]
  exact ho'
theorem markS_own (lo hi : Nat) (a : Option Addr) (n cap : Nat) (xs : List Int) (k : Int) (w : World) (hn : xs.length = n) (hle : n ≤ 1048576) (k0 : 0 ≤ k) (k1 : k ≤ 1000000000) (h : OSl lo hi w a xs) :
    Calls Tryz.prog 30 #[.slice a n cap, .int .i64 k] w fun e w' => e = .returned (.int .i64 (k + n)) ∧ OSl lo hi w' a (marks k n) ∧ Same lo hi w w' := by
  rcases h with ⟨rfl, rfl⟩ | ⟨g, rfl, h1, h2, r⟩
  · obtain rfl : 0 = n := hn
    refine (markInt64S_nil cap k w).mono ?_
    rintro e w' ⟨rfl, rfl⟩
    exact ⟨by simp, .inl ⟨rfl, rfl⟩, rfl, rfl, rfl, Nat.le_refl _, fun i hi _ => rfl⟩
  · refine (markInt64S_any g n cap xs k w hn hle k0 k1 r).mono ?_
    rintro e w' ⟨rfl, q, hg⟩
    exact ⟨rfl, .inr ⟨g, rfl, h1, h2, q⟩, hg.os, hg.tape, hg.output, hg.size, fun i hi ho => hg.block i hi (fun e => by cases e; omega)⟩
end Go.Proofs.YtlnljfbdicgkcaaGreat
namespace Go.Proofs.YtlnljfbdicgkcaaGreat
open Go.ChangeShapes Go.WideShapes Go.ChangeAt Go.RowKit
set_option linter.unusedVariables false
set_option linter.unusedSimpArgs false
set_option maxRecDepth 4000
def unrI (n k l : Nat) : List Int := (unr n k l).map fun (x : Nat) => (x : Int)
theorem unrI_length (n k l : Nat) (hk : k < cnt n l) : (unrI n k l).length = n := by rw [unrI, List.length_map, (unr_ok n k l hk).1]
set_option maxHeartbeats 1000000 in
theorem numberOf_any (g C : Nat) (a : Option Addr) (n cap : Nat) (ns : List Nat) (xs : List Int) (w : World) (hn : n ≤ 25) (c1 : C ≤ 15) (hl : xs.length = n) (hln : ns.length = n) (hs : ns.sum ≤ C)
    (hx : ∀ k, k < xs.length → xs.getD k 0 = (ns.getD k 0 : Int)) (hr : IRow w a xs) (hw : WaysAt w g) :
    Calls Tryz.prog 144 #[.pointer (some ⟨g, 0, none⟩), .slice a n cap, .int .i64 C] w fun e w' => e = .returned (.int .i64 (numL ns C)) ∧ Below w.heap.size w w' := by
  have hT := numL_lt ns C hs
  have hcb := cnt_bound (n := ns.length) (m := C) (by omega) c1
  obtain ⟨T, hTe⟩ : ∃ T, numL ns C = T := ⟨_, rfl⟩
  rw [hTe] at hT ⊢
  have hTb : T < 1099511627776 := by omega
  have HL := Lib.hid hl
  have HLN := Lib.hid hln
  have HX := Lib.hid hx
  have HT := Lib.hid hTe
  clear hl hln hx hTe hT hcb
  go_enter Tryz.func144, Tryz.ntmps144
  go_wp2_with fail
  go_loopg [2, 7, 13] n (fun m l q i wr => ∃ (W : World) (k N L : Nat), W = wr ∧ k ≤ n ∧ m = n - k ∧ i = .int .i64 k ∧ q = .int .i64 N ∧ l = .int .i64 L ∧ L ≤ 15 ∧ (ns.drop k).sum ≤ L ∧ N + numL (ns.drop k) L = T ∧ Below w.heap.size w W)
  case atStart => exact ⟨_, 0, 0, C, rfl, by omega, by omega, rfl, rfl, rfl, c1, by simpa using hs, by simpa using HT.out, Below.refl _ _⟩
  case round =>
    clear hs
    obtain ⟨W, k, N, L, hW, hk, hm, rfl, rfl, rfl, hL, hsum, hN, hbel⟩ := hrel
    subst hW
    by_cases hlt : k < n
    · have hlt' : (k : Int) < (n : Int) := by omega
      have hk0 : (0 : Int) ≤ (k : Int) := by omega
      obtain ⟨b, o, rfl, hc⟩ := hr.below hbel k (by rw [HL.out]; exact hlt)
      obtain ⟨x, hx, hxL, hst, hsum2⟩ := num_step ns k L N T n HLN.out hlt hN hsum
      rw [HX.out k (by rw [HL.out]; exact hlt), hx] at hc
      have hal := blk_all (n - 1 - k) L x hxL
      obtain ⟨bb, hbb⟩ : ∃ bb, n - 1 - k = bb := ⟨_, rfl⟩
      obtain ⟨ln, hln⟩ : ∃ ln, n - k = ln := ⟨_, rfl⟩
      obtain ⟨lx, hlx⟩ : ∃ lx, L - x = lx := ⟨_, rfl⟩
      have e1 : (n : Int) - (k : Int) = (ln : Int) := by omega
      have e2 : (L : Int) - (x : Int) = (lx : Int) := by omega
      rw [hbb, show bb + 1 = ln by omega, hlx] at hal
      rw [hbb, hlx] at hst
      rw [hlx] at hsum2
      have hU := (hw.below hbel).cell ln L (by omega) hL
      have hZ := (hw.below hbel).cell ln lx (by omega) (by omega)
      have hub := cnt_bound (n := ln) (m := L) (by omega) hL
      obtain ⟨U, hUe⟩ : ∃ U, cnt ln L = U := ⟨_, rfl⟩
      obtain ⟨Z, hZe⟩ : ∃ Z, cnt ln lx = Z := ⟨_, rfl⟩
      rw [hUe] at hU hal hub
      rw [hZe] at hZ hal
      have hNb : N + (U - Z) ≤ T := by omega
      have hst2 : N + (U - Z) + numL (ns.drop (k + 1)) lx = T := by omega
      have d1 : (U : Int) ≤ 1099511627776 := by omega
      have d2 : (Z : Int) ≤ (U : Int) := by omega
      have d3 : (N : Int) ≤ 1099511627776 := by omega
      have f1 : (0 : Int) ≤ (ln : Int) := by omega
      have f2 : (ln : Int) < 26 := by omega
      have f3 : (0 : Int) ≤ (L : Int) := by omega
      have f4 : (L : Int) < 16 := by omega
      have f5 : (0 : Int) ≤ (lx : Int) := by omega
      have f6 : (lx : Int) < 16 := by omega
      have f7 : 0 ≤ (x : Int) := by omega
      have f8 : (x : Int) ≤ (L : Int) := by omega
      have f9 : (n : Int) ≤ 25 := by omega
      have w0 : IntKind.i64.wrap ((n : Int) - (k : Int)) = (ln : Int) := by rw [e1]; exact IntWalk.i64_in _ (by omega)
      have w1 : IntKind.i64.wrap (lx : Int) = (lx : Int) := IntWalk.i64_in _ (by omega)
      have w2 : IntKind.i64.wrap ((U : Int) - (Z : Int)) = (U : Int) - (Z : Int) := IntWalk.i64_in _ (by omega)
      have w3 : IntKind.i64.wrap ((N : Int) + ((U : Int) - (Z : Int))) = (N : Int) + ((U : Int) - (Z : Int)) := IntWalk.i64_in _ (by omega)
      have HS := Lib.hid hst2
      have HS2 := Lib.hid hsum2
      have HM := Lib.hid hm
      clear hst hst2 hsum2 hsum hN hm hx hbb hln hal hUe hZe
      go_wp2_with fail
      replace hbel := hbel.drew
      refine wp_region_held_drew (S := fun w' => w'.cell? ⟨g, ln * 16 + L, none⟩ = some (.int .i64 (U : Int)) ∧ w'.cell? ⟨g, ln * 16 + lx, none⟩ = some (.int .i64 (Z : Int))) (by kernel_rfl) ⟨hU, hZ⟩ (fun hHeld => ?_)
      refine tk 0 22 ?_
      refine tk 1 23 ?_
      refine tk 2 24 ?_
      refine tk 3 25 ?_
      refine tk 4 26 ?_
      refine tk 5 27 ?_
      refine tk 6 28 ?_
      refine tk 7 29 ?_
      refine tk 8 30 ?_
      refine tk 9 31 ?_
      refine tk 10 32 ?_
      refine tk 11 33 ?_
      refine tk 12 34 ?_
      refine tk 13 35 ?_
      refine tk 14 36 ?_
      refine tk 15 37 ?_
      refine tk 16 38 ?_
      refine tk 17 39 ?_
      refine tk 18 40 ?_
      refine tk 19 7 ?_
      refine wpAnyH_done (by kernel_rfl) ?_ _
      clear hHeld hU hZ
      go_wp2
      go_roundg (n - (k + 1))
      case measure => have := HM.out; omega
      case rel => exact ⟨_, k + 1, N + (U - Z), lx, rfl, by omega, rfl, by go_num, by go_num, by go_num, by omega, HS2.out, HS.out, hbel⟩
    · obtain rfl : k = n := by omega
      have hN2 : N = T := by
        have : ns.drop k = [] := List.drop_eq_nil_of_le (by have := HLN.out; omega)
        rw [this, numL] at hN
        omega
      subst hN2
      have hlt' : ¬ (k : Int) < (k : Int) := by omega
      go_wp2
      go_ret
      exact ⟨rfl, hbel⟩
def intsN (xs : List Nat) : List Int := xs.map fun (x : Nat) => (x : Int)
theorem intsN_length (xs : List Nat) : (intsN xs).length = xs.length := by simp [intsN]
theorem intsN_getD (xs : List Nat) (k : Nat) (h : k < xs.length) : (intsN xs).getD k 0 = (xs.getD k 0 : Int) := by simp [intsN, h]
theorem intsN_set (xs : List Nat) (k v : Nat) : (intsN xs).set k (v : Int) = intsN (xs.set k v) := by simp [intsN, List.map_set]
theorem zeros_getD (n q : Nat) : (List.replicate n 0).getD q 0 = 0 := by simp [List.getD_eq_getElem?_getD, List.getElem?_replicate]; split <;> rfl
theorem intsN_zeros (n : Nat) : intsN (List.replicate n 0) = List.replicate n 0 := by simp [intsN]
set_option maxRecDepth 4000 in
set_option maxHeartbeats 1000000 in
theorem listAt_any (g K n C : Nat) (w : World) (hn1 : 1 ≤ n) (hn : n ≤ 25) (c1 : C ≤ 15) (hK : K < cnt n C) (hw : WaysAt w g) :
    Calls Tryz.prog 164 #[.pointer (some ⟨g, 0, none⟩), .int .i64 K, .int .i64 n, .int .i64 C] w fun e w' => ∃ gL, e = .returned (.slice (some ⟨gL, 0, none⟩) n n) ∧ w.heap.size ≤ gL ∧ Row w' gL (unrI n K C) ∧ Below w.heap.size w w' := by
  have hmk := run_make_row' (P := Tryz.prog) 26 2 (.int .i64 0) 8 Tryz.underlying26 infoI64 rfl .i64 .i64 n (by omega) (by omega)
  have hn25 : (n : Int) ≤ 25 := by omega
  have hW0 := onWay_start n K C hK
  have hkb := cnt_bound (n := n) (m := C) hn c1
  have hKb : K ≤ 1099511627776 := by omega
  unfold unrI
  obtain ⟨T, hT⟩ : ∃ T, unr n K C = T := ⟨_, rfl⟩
  rw [hT] at hW0 ⊢
  show Calls _ _ _ _ fun e w' => ∃ gL, e = .returned (.slice (some ⟨gL, 0, none⟩) n n) ∧ w.heap.size ≤ gL ∧ Row w' gL (intsN T) ∧ Below w.heap.size w w'
  have hb : Below w.heap.size w (w.alloc (.cells (madeCells #[.int .i64 0] n) 2)) := (Below.refl _ _).alloc (Nat.le_refl _) _
  have R0 := made_row w n
  clear hT hK hkb
  go_enter Tryz.func164, Tryz.ntmps164
  go_wp2
  go_step3
  go_wp2
  go_step3
  go_wp2
  generalize (w.alloc (.cells (madeCells #[.int .i64 0] n) 2)) = v0 at *
  rw [← intsN_zeros] at R0
  have hw0 := hw
  go_loopg [1, 3, 10] (K + n) (fun m a1 a3 a10 wr => ∃ (W : World) (k L q : Nat) (xs : List Nat), W = wr ∧ m = k + (n - q) ∧ a1 = .int .i64 k ∧ a3 = .int .i64 L ∧ a10 = .int .i64 q ∧ xs.getD q 0 + L ≤ 15 ∧ q < n ∧ k ≤ 1099511627776 ∧ onWay T n q k L xs ∧ Row W w.heap.size (intsN xs) ∧ Below w.heap.size w W)
  case atStart => exact ⟨_, K, C, 0, _, rfl, by omega, rfl, rfl, rfl, by rw [zeros_getD]; omega, by omega, hKb, hW0, R0, hb⟩
  case round =>
    clear hW0 R0 hb hKb hmk
    obtain ⟨W, k, L, q, xs, hW, hm, rfl, rfl, rfl, hxL, hq, hkb, hon, RL, hbel⟩ := hrel
    have hL : L ≤ 15 := by omega
    have hz1 := hon.2.2.1 (q + 1) (by omega)
    subst hW
    obtain ⟨bb, hbb⟩ : ∃ bb, n - 1 - q = bb := ⟨_, rfl⟩
    have e1 : (n : Int) - 1 - (q : Int) = (bb : Int) := by omega
    have hB := (hw.below hbel).cell bb L (by omega) hL
    have f1 : (0 : Int) ≤ (bb : Int) := by omega
    have f2 : (bb : Int) < 26 := by omega
    have f3 : (0 : Int) ≤ (L : Int) := by omega
    have f4 : (L : Int) < 16 := by omega
    have hlen := hon.1
    have hnx := onWay_next hon hq
    have hmo := onWay_more hon hq
    rw [hbb] at hnx hmo
    have hvb := cnt_bound (n := bb) (m := L) (by omega) hL
    have hvp := cnt_pos bb L
    obtain ⟨v, hv⟩ : ∃ v, cnt bb L = v := ⟨_, rfl⟩
    rw [hv] at hB hnx hmo hvb hvp
    have d1 : (v : Int) ≤ 1099511627776 := by omega
    have HM := Lib.hid hm
    by_cases hk0 : k = 0
    · subst hk0
      have hfin := onWay_stop hon (by omega)
      subst hfin
      clear hon hnx hmo hm hv hbb
      go_wp2
      (try rw [Exit.noGoto_ret])
      go_ret
      exact ⟨_, rfl, Nat.le_refl _, RL, hbel⟩
    · have k0 : ¬ (k : Int) = 0 := by omega
      have hqn : (q : Int) ≤ 25 := by omega
      by_cases hkv : k < v
      · have h1 : (k : Int) < (v : Int) := by omega
        have hon2 := hnx hkv
        have hq2 := onWay_in hon2 (by omega) hk0
        have HON := Lib.hid hon2
        clear hon hnx hmo hm hv hbb hon2 hkv
        go_wp2
        go_roundg (k + (n - (q + 1)))
        case measure => have := HM.out; omega
        case rel => exact ⟨_, k, L, q + 1, xs, rfl, rfl, rfl, rfl, by go_num, by omega, hq2, hkb, HON.out, RL, hbel⟩
      · have h1 : ¬ (k : Int) < (v : Int) := by omega
        obtain ⟨hL0, hon2⟩ := hmo (by omega)
        have hL1 : (1 : Int) ≤ (L : Int) := by omega
        have hcell := RL.cell q (by rw [intsN_length]; omega)
        have hfree := RL.free q
        rw [intsN_getD xs q (by omega)] at hcell
        have hxb : xs.getD q 0 ≤ 15 := by omega
        have hxs : (xs.set q (xs.getD q 0 + 1)).getD q 0 = xs.getD q 0 + 1 := by simp [List.getD_eq_getElem?_getD, List.getElem?_set_self, show q < xs.length by omega]
        have HXS := Lib.hid hxs
        have RL2 := RL.set q ((xs.getD q 0 : Int) + 1)
        rw [show ((xs.getD q 0 : Int) + 1) = ((xs.getD q 0 + 1 : Nat) : Int) by omega, intsN_set] at RL2
        obtain ⟨x, hx⟩ : ∃ x, xs.getD q 0 = x := ⟨_, rfl⟩
        rw [hx] at hcell hxb hxL hon2 RL2 HXS
        have hxb2 : (x : Int) ≤ 15 := by omega
        have HON := Lib.hid hon2
        have HR2 := Lib.hid RL2
        have e3 : ((x + 1 : Nat) : Int) = (x : Int) + 1 := by omega
        rw [e3] at HR2
        clear hon hnx hmo hm hv hbb hon2 RL2 hx e3 hxs hz1
        go_wp2
        go_roundg (k - v + (n - q))
        case measure => have := HM.out; omega
        case rel => exact ⟨_, k - v, L - 1, q, _, rfl, rfl, by go_num, by go_num, rfl, by rw [HXS.out]; omega, hq, by omega, HON.out, HR2.out, hbel.setCell (p := ⟨w.heap.size, q, none⟩) (by simp) _⟩
theorem ints_one {xs : List Int} : ∀ v ∈ ints xs, v.oneCell' = true := fun v hv => by
  obtain ⟨x, _, rfl⟩ := List.mem_map.1 hv
  rfl
def RowGot (xs : List Int) (w : World) (e : Ending) (w' : World) : Prop :=
  ∃ g k, e = .returned (.slice (some ⟨g, 0, none⟩) xs.length k) ∧ w.heap.size ≤ g ∧ Row w' g xs ∧ Below w.heap.size w w'
theorem Own.row {w : World} {base : Nat} {v : Value} {xs : List Int} (h : Own w base v xs) (h0 : 0 < xs.length) : ∃ g k, v = .slice (some ⟨g, 0, none⟩) xs.length k ∧ base ≤ g ∧ Row w g xs := by
  obtain ⟨a, k, rfl⟩ := h.form
  rcases h.osl with ⟨rfl, rfl⟩ | ⟨g, rfl, h1, h2, r⟩
  · simp at h0
  · exact ⟨g, k, rfl, h1, r⟩
set_option maxRecDepth 8000 in
set_option maxHeartbeats 1000000 in
theorem clone_any (b o n cap : Nat) (xs : List Int) (w : World) (hn : xs.length = n) (h0 : 0 < n) (hle : n ≤ 1048576) (hr : IRow w (some ⟨b, o, none⟩) xs) :
    Calls Tryz.prog 142 #[.slice (some ⟨b, o, none⟩) n cap] w (RowGot xs w) := by
  obtain ⟨i0, hi, hz0, hz1, hz2⟩ := info_parts infoI64
  have hrow : ∀ (W : World), IRow W (some ⟨b, o, none⟩) xs → ∀ (j : Nat) (u : Value), (ints xs)[j]? = some u → W.cell? ((⟨b, o, none⟩ : Addr).add j) = some u := by
    intro W hW j u hj
    obtain ⟨hlt, rfl⟩ := List.getElem?_eq_some_iff.1 hj
    have hlt2 : j < xs.length := by simpa [ints] using hlt
    obtain ⟨b', o', e, hc⟩ := hW j hlt2
    simp at e
    obtain ⟨rfl, rfl⟩ := e
    rw [show (⟨b, o, none⟩ : Addr).add j = ⟨b, o + j, none⟩ from by unfold Addr.add; split <;> simp_all, hc]
    simp [ints, hlt2]
  have hint : (ints xs).length = n * 1 := by simp [ints, hn]
  have HRW := Lib.hid hrow
  have HIN := Lib.hid hint
  have HR := Lib.hid hr
  have HX := Lib.hid hn
  clear hrow hint hr hn
  have hnil : ∀ W : World, (binOp .eql 26 (.slice (some ⟨b, o, none⟩) n cap) (.slice none 0 0)).run Tryz.prog W = .ok (.bool false) W := fun W => Lib.run_eql_slice_nil W _ _ _ _ _ _ _ Tryz.underlying26
  go_enter Tryz.func142, Tryz.ntmps142
  go_wp2_with (at_builtin; (refine wpList_append_grows _ rfl (.tmp 5) (.tmp 6) 26 rfl 2 i0 (.int .i64 0) 1 8 Tryz.underlying26 hi hz0 hz1 hz2 rfl (by decide) _ 0 0 [] rfl (by simp) rfl (by simp) ⟨b, o, none⟩ n cap (ints xs) rfl HIN.out (HRW.out _ (HR.out.alloc _)) ints_one (by omega) (by unfold maxLen; omega) (by omega) ?_))
  intro v' w' hown hgrow
  have ho : Own w' (w.alloc (.cells #[] 2)).heap.size v' xs := by
    show w'.ownsRow _ _ 1 v' xs.length (ints xs)
    rw [HX.out]
    simpa using hown
  obtain ⟨g, k, rfl, hg, r⟩ := (ho.mono (show w.heap.size ≤ _ by simp)).row (by have := HX.out; omega)
  have hb : Below w.heap.size w w' := from_alloc ⟨hgrow.os, hgrow.tape, hgrow.output, hgrow.size, fun k hk => hgrow.block k hk (by simp)⟩
  clear hown hgrow ho
  go_wp2
  go_ret
  exact ⟨g, k, rfl, hg, r, hb⟩
set_option maxHeartbeats 1000000 in
theorem equal_any (a b : Option Addr) (n m c1 c2 : Nat) (xs ys : List Int) (w : World) (hn : xs.length = n) (hm : ys.length = m) (hle : n ≤ 1048576) (hle2 : m ≤ 1048576) (ha : IRow w a xs) (hb : IRow w b ys) :
    Calls Tryz.prog 152 #[.slice a n c1, .slice b m c2] w fun e w' => e = .returned (.bool (decide (xs = ys))) ∧ Below w.heap.size w w' := by
  subst hn hm
  obtain ⟨R, hR⟩ : ∃ R, decide (xs = ys) = R := ⟨_, rfl⟩
  rw [hR]
  have HR := Lib.hid hR
  clear hR
  by_cases hl : xs.length = ys.length
  · have hln : ((xs.length : Int) != (ys.length : Int)) = false := by rw [bne_eq_false_iff_eq]; omega
    have HLN := Lib.hid hl
    clear hl
    go_enter Tryz.func152, Tryz.ntmps152
    go_wp2_with fail
    go_loopg [13] xs.length (fun m i wr => ∃ k : Nat, k ≤ xs.length ∧ m = xs.length - k ∧ i = .int .i64 k ∧ (∀ j, j < k → xs.getD j 0 = ys.getD j 0) ∧ Below w.heap.size w wr)
    case atStart => exact ⟨0, by omega, by omega, rfl, fun j hj => by omega, Below.refl _ _⟩
    case round =>
      obtain ⟨k, hk, hm, rfl, hall, hbel⟩ := hrel
      have HA := Lib.hid hall
      have HM := Lib.hid hm
      clear hall hm
      by_cases hlt : k < xs.length
      · have hlt' : (k : Int) < (xs.length : Int) := by omega
        have hlt2 : (k : Int) < (ys.length : Int) := by have := HLN.out; omega
        have hk0 : (0 : Int) ≤ (k : Int) := by omega
        obtain ⟨b1, o1, rfl, hc1⟩ := ha.below hbel k hlt
        obtain ⟨b2, o2, rfl, hc2⟩ := hb.below hbel k (by omega)
        obtain ⟨u, hu⟩ : ∃ u, xs.getD k 0 = u := ⟨_, rfl⟩
        obtain ⟨v, hv⟩ : ∃ v, ys.getD k 0 = v := ⟨_, rfl⟩
        rw [hu] at hc1
        rw [hv] at hc2
        have HU := Lib.hid hu
        have HV := Lib.hid hv
        clear hu hv
        by_cases huv : u = v
        · subst huv
          go_wp2_with fail
          go_quiet (fail)
          go_wp2
          go_roundg (xs.length - (k + 1))
          case measure => have := HM.out; omega
          case rel =>
            refine ⟨k + 1, by omega, rfl, by go_num, fun j hj => ?_, below_drewN hbel _⟩
            by_cases e : j = k
            · subst e; rw [HU.out, HV.out]
            · exact HA.out j (by omega)
        · have hne : (u != v) = true := by rw [bne_iff_ne]; exact huv
          have hno : R = false := by
            rw [← HR.out, decide_eq_false_iff_not]
            intro e
            subst e
            exact huv (HU.out.symm.trans HV.out)
          subst hno
          clear huv
          go_wp2_with fail
          go_quiet (fail)
          go_wp2
          go_ret
          exact ⟨rfl, below_drewN hbel _⟩
      · obtain rfl : k = xs.length := by omega
        have hlt' : ¬ ((xs.length : Int) < (xs.length : Int)) := by omega
        have hyes : R = true := by
          rw [← HR.out, decide_eq_true_iff]
          apply List.ext_getElem HLN.out
          intro j h1 h2
          have := HA.out j h1
          rwa [show xs.getD j 0 = xs[j] by simp [h1], show ys.getD j 0 = ys[j] by simp [h2]] at this
        subst hyes
        go_wp2
        go_ret
        exact ⟨rfl, hbel⟩
  · have hln : ((xs.length : Int) != (ys.length : Int)) = true := by rw [bne_iff_ne]; omega
    have hno : R = false := by
      rw [← HR.out, decide_eq_false_iff_not]
      intro e
      exact hl (by rw [e])
    subst hno
    clear hl
    go_enter Tryz.func152, Tryz.ntmps152
    go_wp2_with fail
    go_ret
    exact ⟨rfl, Below.refl _ _⟩
end Go.Proofs.YtlnljfbdicgkcaaGreat
namespace Go.Proofs.YtlnljfbdicgkcaaGreat
open Go.ChangeShapes Go.WideShapes Go.ChangeAt Go.RowKit
set_option linter.unusedVariables false
set_option linter.unusedSimpArgs false
def CodeIn (B : Nat) (w : World) (a : Option Addr) (len : Nat) : Prop :=
  ∀ i, i < len → ∃ b o n, a = some ⟨b, o, none⟩ ∧ b < B ∧ w.cell? ⟨b, o + i, none⟩ = some (.int .u8 n) ∧ 0 ≤ n ∧ n ≤ 255
theorem CodeIn.below {B : Nat} {w w' : World} {a : Option Addr} {len : Nat} (h : CodeIn B w a len) (hb : Below B w w') : CodeIn B w' a len := fun i hi => by
  obtain ⟨b, o, n, e, hl, hc, h1, h2⟩ := h i hi
  exact ⟨b, o, n, e, hl, by rw [hb.cell (p := ⟨b, o + i, none⟩) hl]; exact hc, h1, h2⟩
theorem Blk.three {w : World} {g : Nat} {v0 v1 v2 : Value} {t : TypeId} (h : Blk w g #[v0, v1, v2] t) :
    w.cell? ⟨g, 0, none⟩ = some v0 ∧ w.cell? ⟨g, 1, none⟩ = some v1 ∧ w.cell? ⟨g, 2, none⟩ = some v2 ∧ (∀ i, w.frozen? ⟨g, i, none⟩ = false) ∧ g < w.heap.size :=
  ⟨by simpa using h.cell 0, by simpa using h.cell 1, by simpa using h.cell 2, fun i => h.free i, h.lt⟩
end Go.Proofs.YtlnljfbdicgkcaaGreat
namespace Go.Proofs.YtlnljfbdicgkcaaGreat
open Go.ChangeShapes Go.WideShapes Go.ChangeAt Go.RowKit
set_option linter.unusedVariables false
set_option linter.unusedSimpArgs false
set_option maxRecDepth 4000
def rvA (xs : List Int) (n k p : Nat) : Int := if p < k ∨ n - k ≤ p then xs.getD (n - 1 - p) 0 else xs.getD p 0
theorem rvA_step {xs L : List Int} {n k : Nat} (hl : L.length = n) (h : ∀ p, p < n → L.getD p 0 = rvA xs n k p) (hk : k < n - 1 - k) :
    L.getD k 0 = xs.getD k 0 ∧ L.getD (n - 1 - k) 0 = xs.getD (n - 1 - k) 0 ∧ ∀ p, p < n → ((L.set k (xs.getD (n - 1 - k) 0)).set (n - 1 - k) (xs.getD k 0)).getD p 0 = rvA xs n (k + 1) p := by
  have a1 := h k (by omega)
  have a2 := h (n - 1 - k) (by omega)
  rw [rvA, if_neg (by omega)] at a1 a2
  refine ⟨a1, a2, fun p hp => ?_⟩
  have hp2 := h p hp
  simp only [List.getD_eq_getElem?_getD] at hp2 ⊢
  by_cases e1 : p = n - 1 - k
  · subst e1
    rw [List.getElem?_set_self (by simp; omega), rvA, if_pos (by omega), show n - 1 - (n - 1 - k) = k by omega]
    rfl
  · rw [List.getElem?_set_ne (by omega)]
    by_cases e2 : p = k
    · subst e2
      rw [List.getElem?_set_self (by omega), rvA, if_pos (by omega)]
      rfl
    · rw [List.getElem?_set_ne (by omega), hp2, rvA, rvA]
      by_cases e3 : p < k ∨ n - k ≤ p
      · rw [if_pos e3, if_pos (by omega)]
      · rw [if_neg e3, if_neg (by omega)]
theorem rvA_end {xs L : List Int} {n k : Nat} (hx : xs.length = n) (hl : L.length = n) (h : ∀ p, p < n → L.getD p 0 = rvA xs n k p) (hk : n ≤ 2 * k + 1) : L = xs.reverse := by
  refine ext_getD (by simp; omega) fun p => ?_
  by_cases hp : p < n
  · rw [h p hp]
    have : xs.reverse.getD p 0 = xs.getD (n - 1 - p) 0 := by
      simp only [List.getD_eq_getElem?_getD]
      rw [List.getElem?_reverse (by omega), hx]
    rw [this, rvA]
    by_cases e3 : p < k ∨ n - k ≤ p
    · rw [if_pos e3]
    · rw [if_neg e3, show n - 1 - p = p by omega]
  · rw [getD_out (by omega), getD_out (by simp; omega)]
set_option maxHeartbeats 1000000 in
theorem reverse_any (g n cap : Nat) (xs : List Int) (w : World) (hn : xs.length = n) (hle : n ≤ 1048576) (hr : Row w g xs) :
    Calls Tryz.prog 143 #[.slice (some ⟨g, 0, none⟩) n cap] w fun e w' => e = .returned (.tuple #[]) ∧ Row w' g xs.reverse ∧ w.grownBy w' (some g) := by
  have h0 : ∀ p, p < n → xs.getD p 0 = rvA xs n 0 p := fun p hp => by rw [rvA, if_neg (by omega)]
  have HN := Lib.hid hn
  clear hn
  go_enter Tryz.func143, Tryz.ntmps143
  go_wp2_with fail
  go_loopg [2, 3] n (fun m i j wr => ∃ (W : World) (k : Nat) (L : List Int), W = wr ∧ m = n - k ∧ i = .int .i64 k ∧ j = .int .i64 ((n : Int) - 1 - k) ∧ k ≤ n ∧ L.length = n ∧ (∀ p, p < n → L.getD p 0 = rvA xs n k p) ∧ Row W g L ∧ w.grownBy W (some g))
  case atStart => exact ⟨_, 0, xs, rfl, rfl, rfl, by go_num, by omega, HN.out, h0, hr, grown_refl _ _⟩
  case round =>
    clear h0 hr
    obtain ⟨W, k, L, hW, hm, rfl, rfl, hk, hL, hS, RL, hG⟩ := hrel
    subst hW
    by_cases hlt : k < n - 1 - k
    · obtain ⟨a1, a2, a3⟩ := rvA_step hL hS hlt
      obtain ⟨jn, hjn⟩ : ∃ jn, n - 1 - k = jn := ⟨_, rfl⟩
      have e1 : (n : Int) - 1 - (k : Int) = (jn : Int) := by omega
      rw [hjn] at a2 a3
      obtain ⟨vi, hvi⟩ : ∃ v, L.getD k 0 = v := ⟨_, rfl⟩
      obtain ⟨vj, hvj⟩ : ∃ v, L.getD jn 0 = v := ⟨_, rfl⟩
      rw [← a1, hvi, ← a2, hvj] at a3
      have hlt' : (k : Int) < (jn : Int) := by omega
      have f1 : (0 : Int) ≤ (k : Int) := by omega
      have f2 : (k : Int) < (n : Int) := by omega
      have f3 : (0 : Int) ≤ (jn : Int) := by omega
      have f4 : (jn : Int) < (n : Int) := by omega
      have f5 : (n : Int) ≤ 1048576 := by omega
      have HJ := Lib.hid e1
      have HS := Lib.hid a3
      have HL := Lib.hid hL
      rw [e1]
      have hkn : k < L.length := by omega
      have hjl : jn < L.length := by omega
      clear a1 a2 a3 hS hL hjn hlt
      go_wp2_with fail
      refine wp_region_held_drew (S := fun _ => True) (by kernel_rfl) trivial (fun hHeld => ?_)
      clear hHeld
      replace RL := RL.drew
      replace hG := grown_drew hG
      have c1 := RL.cell k (by omega)
      have c2 := RL.cell jn (by omega)
      have f0 := fun q => RL.free q
      rw [hvi] at c1
      rw [hvj] at c2
      generalize W.drew = vd at *
      have hHeld : True := trivial
      refine tk 0 14 ?_
      refine tk 1 15 ?_
      refine tk 2 16 ?_
      refine tk 3 17 ?_
      refine tk 4 18 ?_
      refine tk 5 19 ?_
      refine tk 6 20 ?_
      refine tk 8 22 ?_
      refine tk 9 23 ?_
      refine tk 10 24 ?_
      refine wpAnyH_ready (rs := [7, 11]) (by kernel_rfl) (by simp) ?_
      refine AllReadyH.cons (o := ⟨some 21, _, _, _, _, _⟩) rfl (fun K hK => ?_) (AllReadyH.cons (o := ⟨some 25, _, _, _, _, _⟩) rfl (fun K hK => ?_) AllReadyH.nil)
      · go_simp
        (try go_wp2_with fail)
        refine hko hK trivial fun hHeld => ?_
        clear hK K
        refine rdk 11 25 fun K hK => ?_
        go_simp
        (try go_wp2_with fail)
        refine hko hK trivial fun hHeld => ?_
        clear hK K
        refine tk 12 26 ?_
        refine rdn 13 fun K hK => ?_
        go_simp
        (try go_wp2_with fail)
        refine hko hK trivial fun hHeld => ?_
        clear hK K
        have R1 := RL.set k vj
        have d1 := R1.cell jn (by rw [List.length_set]; omega)
        have f1 := fun q => R1.free q
        have G1 := grown_set (o := k) (v := .int .i64 vj) hG
        refine tk 14 27 ?_
        refine rdn 15 fun K hK => ?_
        go_simp
        (try go_wp2_with fail)
        refine hko hK trivial fun hHeld => ?_
        clear hK K
        have R2 := R1.set jn vi
        have G2 := grown_set (o := jn) (v := .int .i64 vi) G1
        clear d1 f1 R1 G1
        refine wpAnyH_done (by kernel_rfl) ?_ _
        have HR2 := Lib.hid R2
        have HG2 := Lib.hid G2
        clear R2 G2 hHeld hG RL c1 c2 f0
        go_wp2
        go_roundg (n - (k + 1))
        case measure => omega
        case rel => exact ⟨_, k + 1, _, rfl, rfl, by go_num, by (have := HJ.out); go_num, by omega, by rw [List.length_set, List.length_set]; exact HL.out, fun p hp => HS.out p hp, HR2.out, HG2.out⟩
      · go_simp
        (try go_wp2_with fail)
        refine hko hK trivial fun hHeld => ?_
        clear hK K
        refine rdk 7 21 fun K hK => ?_
        go_simp
        (try go_wp2_with fail)
        refine hko hK trivial fun hHeld => ?_
        clear hK K
        refine tk 12 26 ?_
        refine rdn 13 fun K hK => ?_
        go_simp
        (try go_wp2_with fail)
        refine hko hK trivial fun hHeld => ?_
        clear hK K
        have R1 := RL.set k vj
        have d1 := R1.cell jn (by rw [List.length_set]; omega)
        have f1 := fun q => R1.free q
        have G1 := grown_set (o := k) (v := .int .i64 vj) hG
        refine tk 14 27 ?_
        refine rdn 15 fun K hK => ?_
        go_simp
        (try go_wp2_with fail)
        refine hko hK trivial fun hHeld => ?_
        clear hK K
        have R2 := R1.set jn vi
        have G2 := grown_set (o := jn) (v := .int .i64 vi) G1
        clear d1 f1 R1 G1
        refine wpAnyH_done (by kernel_rfl) ?_ _
        have HR2 := Lib.hid R2
        have HG2 := Lib.hid G2
        clear R2 G2 hHeld hG RL c1 c2 f0
        go_wp2
        go_roundg (n - (k + 1))
        case measure => omega
        case rel => exact ⟨_, k + 1, _, rfl, rfl, by go_num, by (have := HJ.out); go_num, by omega, by rw [List.length_set, List.length_set]; exact HL.out, fun p hp => HS.out p hp, HR2.out, HG2.out⟩
    · have hlt' : ¬ (k : Int) < (n : Int) - 1 - (k : Int) := by omega
      have hfin := rvA_end HN.out hL hS (by omega)
      subst hfin
      clear hS
      go_wp2
      exact ⟨rfl, .tuple #[], by simp [results, Tryz.results143, go_sem], rfl, RL, hG⟩
theorem cnt_mono2 (k : Nat) {i j : Nat} (h : i ≤ j) : cnt k i ≤ cnt k j := by rw [cnt_symm k i, cnt_symm k j]; exact cnt_mono k h
theorem wyI_small {k n h c : Nat} (hs : cnt h c ≤ 1000000) (hk : k ≤ h) (hn : n ≤ c) : wyI k n = (cnt k n : Int) := by
  have h1 := cnt_mono n hk
  have h2 := cnt_mono2 h hn
  rw [wyI, if_pos (by omega)]
theorem rest_cons (ns : List Nat) (k : Nat) (h : k < ns.length) : (ns.take (k + 1)).reverse = ns.getD k 0 :: (ns.take k).reverse := by
  rw [List.take_succ_eq_append_getElem h, List.reverse_append]
  simp [h]
set_option maxHeartbeats 1000000 in
theorem l10Number_any (p h s : Int) (C : Nat) (a : Option Addr) (n cap : Nat) (ns : List Nat) (xs : List Int) (w : World) (hn1 : n ≤ 24) (c1 : C ≤ 15) (hl : xs.length = n) (hln : ns.length = n) (hs : ns.sum ≤ C) (hsm : cnt n C ≤ 1000000)
    (hx : ∀ k, k < xs.length → xs.getD k 0 = (ns.getD k 0 : Int)) (hr : IRow w a xs) :
    Calls Tryz.prog 124 #[.agg #[.int .i64 p, .int .i64 (C : Int), .int .i64 h, .int .i64 s], .slice a n cap] w fun e w' => e = .returned (.int .i64 (bnN ns C)) ∧ Below w.heap.size w w' := by
  have BV := Blk.new w #[.int .i64 p, .int .i64 (C : Int), .int .i64 h, .int .i64 s] 25
  have hb : Below w.heap.size w (w.alloc (.cells #[.int .i64 p, .int .i64 (C : Int), .int .i64 h, .int .i64 s] 25)) := (Below.refl _ _).alloc (Nat.le_refl _) _
  obtain ⟨x0, x1, x2, x3, xf, xl⟩ := BV.four
  have hT := bnN_lt ns C hs
  rw [hln] at hT
  have hT2 : numL (ns.take n).reverse C = bnN ns C := by rw [← hln, List.take_length]; rfl
  obtain ⟨T, hTe⟩ : ∃ T, bnN ns C = T := ⟨_, rfl⟩
  rw [hTe] at hT hT2 ⊢
  have hTb : T < 1000000 := by omega
  have hs2 : (ns.take n).sum ≤ C := by rw [← hln, List.take_length]; exact hs
  have hn24 : (n : Int) ≤ 24 := by omega
  have HL := Lib.hid hl
  have HLN := Lib.hid hln
  have HX := Lib.hid hx
  have HSM := Lib.hid hsm
  have HT2 := Lib.hid hT2
  replace hr := hr.below hb
  clear hl hln hx hTe hT hsm hT2 hs
  go_enter Tryz.func124, Tryz.ntmps124
  go_wp2_with fail
  clear x0 x1 x2 x3 xf xl BV
  generalize (w.alloc (.cells #[.int .i64 p, .int .i64 (C : Int), .int .i64 h, .int .i64 s] 25)) = v0 at *
  go_loopg [5, 6, 7] n (fun m q l i wr => v0 = wr ∧ ∃ (N L : Nat), m ≤ n ∧ i = .int .i64 ((m : Int) - 1) ∧ q = .int .i64 N ∧ l = .int .i64 L ∧ L ≤ C ∧ (ns.take m).sum ≤ L ∧ N + numL (ns.take m).reverse L = T)
  case atStart => exact ⟨rfl, 0, C, Nat.le_refl _, rfl, rfl, rfl, Nat.le_refl _, hs2, by rw [Nat.zero_add]; exact HT2.out⟩
  case round =>
    clear hs2
    obtain ⟨rfl, N, L, hm, rfl, rfl, rfl, hL, hsum, hN⟩ := hrel
    cases gk with
    | zero =>
      have hN2 : N = T := by simpa [numL] using hN
      subst hN2
      clear hN hsum
      go_wp2
      go_ret
      exact ⟨rfl, hb⟩
    | succ bb =>
      obtain ⟨b, o, rfl, hc⟩ := hr bb (by rw [HL.out]; omega)
      rw [rest_cons ns bb (by rw [HLN.out]; omega)] at hN
      have hsb : (ns.take (bb + 1)).sum = ns.getD bb 0 + (ns.take bb).sum := by
        have := congrArg List.sum (rest_cons ns bb (by rw [HLN.out]; omega))
        rw [List.sum_reverse, List.sum_cons, List.sum_reverse] at this
        exact this
      rw [HX.out bb (by rw [HL.out]; omega)] at hc
      obtain ⟨x, hxe⟩ : ∃ x, ns.getD bb 0 = x := ⟨_, rfl⟩
      rw [hxe] at hc hN hsb
      rw [numL, List.length_reverse, List.length_take, show min bb ns.length = bb by (have := HLN.out; omega)] at hN
      have e1 : (((bb + 1 : Nat) : Int) - 1) = (bb : Int) := by omega
      rw [e1]
      have hbb3 : (bb : Int) ≤ 24 := by omega
      have hbn : (bb : Int) < (n : Int) := by omega
      have hxL : x ≤ L := by omega
      have hNb : N + blk bb L x ≤ T := by omega
      have hbx : 0 ≤ (x : Int) := by omega
      have hbL : (x : Int) ≤ (L : Int) := by omega
      have hbL2 : (L : Int) ≤ 15 := by omega
      have hst : N + blk bb L x + numL (ns.take bb).reverse (L - x) = T := by omega
      have hsum2 : (ns.take bb).sum ≤ L - x := by omega
      have HS := Lib.hid hst
      have HS2 := Lib.hid hsum2
      clear hst hsum2 hsum hN hsb hxe e1
      go_wp2_with fail
      go_loopg [5, 8] x (fun m2 q i wi => v0 = wi ∧ ∃ j : Nat, j ≤ x ∧ m2 = x - j ∧ i = .int .i64 j ∧ q = .int .i64 ((N + blk bb L j : Nat) : Int))
      case atStart => exact ⟨rfl, 0, by omega, by omega, rfl, by simp [blk]⟩
      case round =>
        obtain ⟨rfl, j, hj, hm2, rfl, rfl⟩ := hrel
        by_cases hjx : j < x
        · have hjx' : (j : Int) < (x : Int) := by omega
          have e3 : (L : Int) - (j : Int) = ((L - j : Nat) : Int) := by omega
          have hC := fun W => l10Ways_any bb (L - j) W (by omega) (by omega)
          rw [wyI_small HSM.out (by omega) (by omega)] at hC
          have hst : N + blk bb L j + cnt bb (L - j) = N + blk bb L (j + 1) := by rw [blk]; omega
          have hup := blk_upto bb L (show j + 1 ≤ x by omega)
          obtain ⟨u, hu⟩ : ∃ u, N + blk bb L j = u := ⟨_, rfl⟩
          obtain ⟨v, hv⟩ : ∃ v, cnt bb (L - j) = v := ⟨_, rfl⟩
          rw [hv] at hC hst
          rw [hu] at hst ⊢
          have hub : (u : Int) + (v : Int) < 1000000 := by omega
          have HC := Lib.hid hC
          have HJ := Lib.hid hst
          clear hC hst hu hv hup
          go_wp2_with (go_at_call 104; refine (HC.out _).mono ?_; rintro e w1 ⟨rfl, rfl⟩)
          go_roundg (x - (j + 1))
          case measure => omega
          case rel => exact ⟨rfl, j + 1, by omega, rfl, by go_num, by rw [← HJ.out]; go_num⟩
        · obtain rfl : j = x := by omega
          have hjx' : ¬ (j : Int) < (j : Int) := by omega
          obtain ⟨u, hu⟩ : ∃ u, N + blk bb L j = u := ⟨_, rfl⟩
          rw [hu] at HS hNb ⊢
          have HU := Lib.hid hu
          clear hu
          go_wp2
          go_roundg bb
          case measure => omega
          case rel => exact ⟨rfl, u, L - j, by omega, by go_num, rfl, by go_num, by omega, HS2.out, HS.out⟩
end Go.Proofs.YtlnljfbdicgkcaaGreat
