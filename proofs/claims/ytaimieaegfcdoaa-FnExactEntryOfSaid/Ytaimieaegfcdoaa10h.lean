/- Contracts of chapter 10: the number of a position and the position with a number, of the program and of its model. -/
import Derived.Test.Ytaimieaegfcdoaa10a
import Derived.Test.Ytaimieaegfcdoaa10d
import Derived.Test.Ytaimieaegfcdoaa10e
import Derived.Test.Ytaimieaegfcdoaa10f
import Derived.Test.Ytaimieaegfcdoaa10g
namespace Go.Proofs.Ytaimieaegfcdoaa
open Go.ChangeShapes Go.WideShapes Go.ChangeAt Go.RowKit
set_option linter.unusedVariables false
set_option linter.unusedSimpArgs false
set_option maxRecDepth 4000

theorem WaysAt.grown {w w' : World} {g g' : Nat} (h : WaysAt w g) (hg : w.grownBy w' (some g')) (hne : g ≠ g') : WaysAt w' g := by
  obtain ⟨cur, hB, h1, h2⟩ := h
  exact ⟨cur, hB.grown hg hne, h1, h2⟩
theorem nats_reverse (ns : List Nat) (xs : List Int) (hl : ns.length = xs.length) (hx : ∀ k, k < xs.length → xs.getD k 0 = (ns.getD k 0 : Int)) : ∀ k, k < xs.reverse.length → xs.reverse.getD k 0 = (ns.reverse.getD k 0 : Int) := by
  intro k hk
  rw [List.length_reverse] at hk
  have h := hx (xs.length - 1 - k) (by omega)
  simp only [List.getD_eq_getElem?_getD] at h ⊢
  rw [List.getElem?_reverse hk, List.getElem?_reverse (by omega), hl]
  exact h
set_option maxHeartbeats 1000000 in
theorem bearoffNumberM_any (p h s : Int) (C g : Nat) (a : Option Addr) (n cap : Nat) (ns : List Nat) (xs : List Int) (w : World) (n1 : 1 ≤ n) (hn : n ≤ 24) (c1 : C ≤ 15) (hl : xs.length = n) (hln : ns.length = n) (hs : ns.sum ≤ C)
    (hx : ∀ k, k < xs.length → xs.getD k 0 = (ns.getD k 0 : Int)) (hr : IRow w a xs) (hw : WaysAt w g) :
    Calls Try.prog 70 #[.pointer (some ⟨g, 0, none⟩), .agg #[.int .i64 p, .int .i64 (C : Int), .int .i64 h, .int .i64 s], .slice a n cap] w fun e w' => e = .returned (.int .i64 (bnN ns C)) ∧ Below w.heap.size w w' := by
  obtain ⟨b, o, rfl, _⟩ := hr 0 (by omega)
  have BV := Blk.new w #[.int .i64 p, .int .i64 (C : Int), .int .i64 h, .int .i64 s] 37
  have hb : Below w.heap.size w (w.alloc (.cells #[.int .i64 p, .int .i64 (C : Int), .int .i64 h, .int .i64 s] 37)) := (Below.refl _ _).alloc (Nat.le_refl _) _
  have hgl := hw.lt
  have hbl := BV.lt
  have hC := fun W (r : IRow W (some ⟨b, o, none⟩) xs) => clone_any b o n cap xs W hl n1 (by omega) r
  have hR := fun W gg k (r : Row W gg xs) => reverse_any gg xs.length k xs W rfl (by omega) r
  have hN := fun W gg k (r : Row W gg xs.reverse) (q : WaysAt W g) => numberOf_any g C (some ⟨gg, 0, none⟩) xs.length k ns.reverse xs.reverse W (by omega) c1 (by simp) (by simp; omega) (by simpa using hs) (nats_reverse ns xs (by omega) hx) r.irow q
  have HC := Lib.hid hC
  have HR := Lib.hid hR
  have HN := Lib.hid hN
  replace hr := hr.below hb
  replace hw := hw.below hb
  clear hC hR hN hl hln hx
  obtain ⟨x0, x1, x2, x3, xf, xl⟩ := BV.four
  go_enter Try.func70, Try.ntmps70
  go_wp2_with (first
    | (go_at_call 76; refine (HC.out _ hr).mono ?_; rintro e w1 ⟨g1, k1, rfl, hg1, R1, hb1⟩; clear x0 x1 x2 x3 xf xl; replace BV := BV.below hb1; replace hw := hw.below hb1; replace hb := chain hb hb1; have hgg : w.heap.size < g1 := Nat.lt_of_lt_of_le hbl hg1; clear hb1 hg1; obtain ⟨x0, x1, x2, x3, xf, xl⟩ := BV.four)
    | (go_at_call 77; refine (HR.out _ _ _ R1).mono ?_; rintro e w2 ⟨rfl, R2, hG⟩; clear x0 x1 x2 x3 xf xl R1; replace BV := BV.grown hG (by omega); replace hw := hw.grown hG (by omega); replace hb := hb.grown hG hb.size (fun k hk => by simp at hk; omega); obtain ⟨x0, x1, x2, x3, xf, xl⟩ := BV.four)
    | (go_at_call 78; refine (HN.out _ _ _ R2 hw).mono ?_; rintro e w3 ⟨rfl, hb3⟩; replace hb := chain hb hb3))
  go_ret
  exact ⟨rfl, hb⟩
/-- The positions of a variant are numbered. -/
def fewB (c h : Int) : Bool := decide (cnt h.toNat c.toNat ≤ 1000000)
def bnI (p c h s : Int) (xs : List Int) : Int := if okP p c h s xs = true ∧ fewB c h = true then (bnN (nats xs) c.toNat : Int) else 0
def bnE (p c h s : Int) (xs : List Int) : Int := if okP p c h s xs = true then (if fewB c h = true then 0 else 3) else bcE p c h s xs
def okK (c h k : Int) : Bool := decide (0 ≤ k ∧ k < (cnt h.toNat c.toNat : Int))
def baL (p c h s k : Int) : List Int := if vB p c h s = true ∧ fewB c h = true ∧ okK c h k = true then (unrI h.toNat k.toNat c.toNat).reverse else []
def baE (p c h s k : Int) : Int := if vB p c h s = true then (if fewB c h = true then (if okK c h k = true then 0 else 4) else 3) else 1
theorem wyI_few {c h : Int} (e : fewB c h = true) : wyI h.toNat c.toNat = (cnt h.toNat c.toNat : Int) := by
  simp only [fewB, decide_eq_true_eq] at e
  rw [wyI, if_pos e]
theorem wyI_many {c h : Int} (e : fewB c h = false) : wyI h.toNat c.toNat = -1 := by
  simp only [fewB, decide_eq_false_iff_not] at e
  rw [wyI, if_neg e]
theorem okP_v {p c h s : Int} {xs : List Int} (g : okP p c h s xs = true) : vB p c h s = true ∧ sideB (h - 1) c xs = true := by simpa [okP] using g
end Go.Proofs.Ytaimieaegfcdoaa
