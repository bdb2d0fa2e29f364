/- Contracts of chapter 10: the number of a position and the position with a number, of the program and of its model. -/
import Derived.Test.Ythnkckflajkaiaa10a
import Derived.Test.Ythnkckflajkaiaa10d
import Derived.Test.Ythnkckflajkaiaa10e
import Derived.Test.Ythnkckflajkaiaa10f
import Derived.Test.Ythnkckflajkaiaa10g
namespace Go.Proofs.Ythnkckflajkaiaa
open Go.ChangeShapes Go.WideShapes Go.ChangeAt Go.RowKit
set_option linter.unusedVariables false
set_option linter.unusedSimpArgs false

theorem WaysAt.grown {w w' : World} {g g' : Nat} (h : WaysAt w g) (hg : w.grownBy w' (some g')) (hne : g ≠ g') : WaysAt w' g := by
  obtain ⟨cur, hB, h1, h2⟩ := h
  exact ⟨cur, hB.grown hg hne, h1, h2⟩
theorem nats_reverse (ns : List Nat) (xs : List Int) (hl : ns.length = xs.length) (hx : ∀ k, k < xs.length → xs.getD k 0 = (ns.getD k 0 : Int)) : ∀ k, k < xs.reverse.length → xs.reverse.getD k 0 = (ns.reverse.getD k 0 : Int) := by
  intro k hk
  rw [List.length_reverse] at hk
  have h := hx (xs.length - 1 - k) (by omega)
  simp only [List.getD_eq_getElem?_getD] at h ⊢
  rw [List.getElem?_reverse hk, List.getElem?_reverse (by omega), hl]
  exact h
set_option maxHeartbeats 1000000 in
theorem bearoffNumberM_any (p h s : Int) (C g : Nat) (a : Option Addr) (n cap : Nat) (ns : List Nat) (xs : List Int) (w : World) (n1 : 1 ≤ n) (hn : n ≤ 24) (c1 : C ≤ 15) (hl : xs.length = n) (hln : ns.length = n) (hs : ns.sum ≤ C)
    (hx : ∀ k, k < xs.length → xs.getD k 0 = (ns.getD k 0 : Int)) (hr : IRow w a xs) (hw : WaysAt w g) :
    Calls Try.prog 65 #[.pointer (some ⟨g, 0, none⟩), .agg #[.int .i64 p, .int .i64 (C : Int), .int .i64 h, .int .i64 s], .slice a n cap] w fun e w' => e = .returned (.int .i64 (bnN ns C)) ∧ Below w.heap.size w w' := by
  obtain ⟨b, o, rfl, _⟩ := hr 0 (by omega)
  have BV := Blk.new w #[.int .i64 p, .int .i64 (C : Int), .int .i64 h, .int .i64 s] 26
  have hb : Below w.heap.size w (w.alloc (.cells #[.int .i64 p, .int .i64 (C : Int), .int .i64 h, .int .i64 s] 26)) := (Below.refl _ _).alloc (Nat.le_refl _) _
  have hgl := hw.lt
  have hbl := BV.lt
  have hC := fun W (r : IRow W (some ⟨b, o, none⟩) xs) => clone_any b o n cap xs W hl n1 (by omega) r
  have hR := fun W gg k (r : Row W gg xs) => reverse_any gg xs.length k xs W rfl (by omega) r
  have hN := fun W gg k (r : Row W gg xs.reverse) (q : WaysAt W g) => numberOf_any g C (some ⟨gg, 0, none⟩) xs.length k ns.reverse xs.reverse W (by omega) c1 (by simp) (by simp; omega) (by simpa using hs) (nats_reverse ns xs (by omega) hx) r.irow q
  have HC := Lib.hid hC
  have HR := Lib.hid hR
  have HN := Lib.hid hN
  replace hr := hr.below hb
  replace hw := hw.below hb
  clear hC hR hN hl hln hx
  obtain ⟨x0, x1, x2, x3, xf, xl⟩ := BV.four
  go_enter Try.func65, Try.ntmps65
  go_wp2_with (first
    | (go_at_call 87; refine (HC.out _ hr).mono ?_; rintro e w1 ⟨g1, k1, rfl, hg1, R1, hb1⟩; clear x0 x1 x2 x3 xf xl; replace BV := BV.below hb1; replace hw := hw.below hb1; replace hb := chain hb hb1; have hgg : w.heap.size < g1 := Nat.lt_of_lt_of_le hbl hg1; clear hb1 hg1; obtain ⟨x0, x1, x2, x3, xf, xl⟩ := BV.four)
    | (go_at_call 91; refine (HR.out _ _ _ R1).mono ?_; rintro e w2 ⟨rfl, R2, hG⟩; clear x0 x1 x2 x3 xf xl R1; replace BV := BV.grown hG (by omega); replace hw := hw.grown hG (by omega); replace hb := hb.grown hG hb.size (fun k hk => by simp at hk; omega); obtain ⟨x0, x1, x2, x3, xf, xl⟩ := BV.four)
    | (go_at_call 82; refine (HN.out _ _ _ R2 hw).mono ?_; rintro e w3 ⟨rfl, hb3⟩; replace hb := chain hb hb3))
  go_ret
  exact ⟨rfl, hb⟩
set_option maxHeartbeats 1000000 in
theorem bearoffAtM_any (p s : Int) (C H K g : Nat) (w : World) (h1 : 1 ≤ H) (hH : H ≤ 24) (c1 : C ≤ 15) (hK : K < cnt H C) (hw : WaysAt w g) :
    Calls Try.prog 68 #[.pointer (some ⟨g, 0, none⟩), .agg #[.int .i64 p, .int .i64 (C : Int), .int .i64 (H : Int), .int .i64 s], .int .i64 K] w fun e w' => ∃ gL, e = .returned (.slice (some ⟨gL, 0, none⟩) H H) ∧ w.heap.size ≤ gL ∧ Row w' gL (unrI H K C).reverse ∧ Below w.heap.size w w' := by
  have BV := Blk.new w #[.int .i64 p, .int .i64 (C : Int), .int .i64 (H : Int), .int .i64 s] 26
  have hb : Below w.heap.size w (w.alloc (.cells #[.int .i64 p, .int .i64 (C : Int), .int .i64 (H : Int), .int .i64 s] 26)) := (Below.refl _ _).alloc (Nat.le_refl _) _
  have hbl := BV.lt
  have hlen := unrI_length H K C hK
  have hA := fun W (q : WaysAt W g) => listAt_any g K H C W h1 (by omega) c1 hK q
  have hR := fun W gg (r : Row W gg (unrI H K C)) => reverse_any gg H H _ W hlen (by omega) r
  have HA := Lib.hid hA
  have HR := Lib.hid hR
  replace hw := hw.below hb
  clear hA hR hlen hK
  obtain ⟨x0, x1, x2, x3, xf, xl⟩ := BV.four
  go_enter Try.func68, Try.ntmps68
  go_wp2_with (first
    | (go_at_call 83; refine (HA.out _ hw).mono ?_; rintro e w1 ⟨g1, rfl, hg1, R1, hb1⟩; clear x0 x1 x2 x3 xf xl; replace BV := BV.below hb1; replace hb := chain hb hb1; have hgg : w.heap.size < g1 := Nat.lt_of_lt_of_le hbl hg1; clear hb1 hg1 hw; obtain ⟨x0, x1, x2, x3, xf, xl⟩ := BV.four)
    | (go_at_call 91; refine (HR.out _ _ R1).mono ?_; rintro e w2 ⟨rfl, R2, hG⟩; clear x0 x1 x2 x3 xf xl R1; replace hb := hb.grown hG hb.size (fun k hk => by simp at hk; omega)))
  go_ret
  exact ⟨_, rfl, by omega, R2, hb⟩
/-- The positions of a variant are numbered. -/
def fewB (c h : Int) : Bool := decide (cnt h.toNat c.toNat ≤ 1000000)
def bnI (p c h s : Int) (xs : List Int) : Int := if okP p c h s xs = true ∧ fewB c h = true then (bnN (nats xs) c.toNat : Int) else 0
def bnE (p c h s : Int) (xs : List Int) : Int := if okP p c h s xs = true then (if fewB c h = true then 0 else 3) else bcE p c h s xs
def okK (c h k : Int) : Bool := decide (0 ≤ k ∧ k < (cnt h.toNat c.toNat : Int))
def baL (p c h s k : Int) : List Int := if vB p c h s = true ∧ fewB c h = true ∧ okK c h k = true then (unrI h.toNat k.toNat c.toNat).reverse else []
def baE (p c h s k : Int) : Int := if vB p c h s = true then (if fewB c h = true then (if okK c h k = true then 0 else 4) else 3) else 1
theorem wyI_few {c h : Int} (e : fewB c h = true) : wyI h.toNat c.toNat = (cnt h.toNat c.toNat : Int) := by
  simp only [fewB, decide_eq_true_eq] at e
  rw [wyI, if_pos e]
theorem wyI_many {c h : Int} (e : fewB c h = false) : wyI h.toNat c.toNat = -1 := by
  simp only [fewB, decide_eq_false_iff_not] at e
  rw [wyI, if_neg e]
theorem okP_v {p c h s : Int} {xs : List Int} (g : okP p c h s xs = true) : vB p c h s = true ∧ sideB (h - 1) c xs = true := by simpa [okP] using g
set_option maxHeartbeats 1000000 in
theorem bearoffNumber_any (p c h s : Int) (a : Option Addr) (n cap : Nat) (xs : List Int) (w : World) (hn : xs.length = n) (hle : n ≤ 1048576) (hr : IRow w a xs) :
    Calls Try.prog 30 #[.agg #[.int .i64 p, .int .i64 c, .int .i64 h, .int .i64 s], .slice a n cap] w fun e w' => e = .returned (.tuple #[.int .i64 (bnI p c h s xs), .int .i64 (bnE p c h s xs)]) ∧ Below w.heap.size w w' := by
  have BV := Blk.new w #[.int .i64 p, .int .i64 c, .int .i64 h, .int .i64 s] 26
  have hb : Below w.heap.size w (w.alloc (.cells #[.int .i64 p, .int .i64 c, .int .i64 h, .int .i64 s] 26)) := (Below.refl _ _).alloc (Nat.le_refl _) _
  obtain ⟨x0, x1, x2, x3, xf, xl⟩ := BV.four
  have hC := fun W (r : IRow W a xs) => bearoffCode_any p c h s a n cap xs W hn hle r
  replace hr := hr.below hb
  cases z : okP p c h s xs with
  | false =>
    have e1 : bnI p c h s xs = 0 := by simp [bnI, z]
    have e2 : bnE p c h s xs = bcE p c h s xs := by simp [bnE, z]
    have e3 : bcE p c h s xs ≠ 0 := fun q => by have := okP_of q; rw [z] at this; simp at this
    rw [e1, e2]
    obtain ⟨e, he⟩ : ∃ e, bcE p c h s xs = e := ⟨_, rfl⟩
    rw [he] at hC e3 ⊢
    have z1 : (e != 0) = true := by rw [bne_iff_ne]; exact e3
    have HC := Lib.hid hC
    clear hC e1 e2 he z e3
    go_enter Try.func30, Try.ntmps30
    go_wp2_with (first | (go_at_call 60; refine (HC.out _ hr).mono ?_; rintro e wq ⟨rfl, hbq⟩; clear x0 x1 x2 x3 xf xl; replace BV := BV.below hbq; replace hr := hr.below hbq; replace hb := chain hb hbq; clear hbq; obtain ⟨x0, x1, x2, x3, xf, xl⟩ := BV.four))
    go_ret2
    exact ⟨rfl, hb⟩
  | true =>
    have hok := okP_parts z
    have hvs := okP_v z
    have hv := vB_iff.1 hvs.1
    obtain ⟨s1, s2, s3⟩ := side_nats hvs.2 (by omega)
    rw [bcE_of z] at hC
    have HC := Lib.hid hC
    clear hC
    have hW := fun W gg (q : WaysAt W gg) => bearoffCountM_any p s c.toNat h.toNat gg W (by omega) (by omega) q
    rw [show ((c.toNat : Nat) : Int) = c by omega, show ((h.toNat : Nat) : Int) = h by omega] at hW
    cases y : fewB c h with
    | false =>
      have e1 : bnI p c h s xs = 0 := by simp [bnI, y]
      have e2 : bnE p c h s xs = 3 := by simp [bnE, z, y]
      rw [e1, e2]
      rw [wyI_many y] at hW
      have HW := Lib.hid hW
      clear hW e1 e2 hok hvs hv s1 s2 s3 z y
      go_enter Try.func30, Try.ntmps30
      go_wp2_with (first | (go_at_call 60; refine (HC.out _ hr).mono ?_; rintro e wq ⟨rfl, hbq⟩; clear x0 x1 x2 x3 xf xl; replace BV := BV.below hbq; replace hr := hr.below hbq; replace hb := chain hb hbq; clear hbq; obtain ⟨x0, x1, x2, x3, xf, xl⟩ := BV.four) | (go_at_call 56; refine (countWays_any _).mono ?_; rintro e wq ⟨g, rfl, hgw, HWA, hbq⟩; clear x0 x1 x2 x3 xf xl; replace BV := BV.below hbq; replace hr := hr.below hbq; replace hb := chain hb hbq; clear hbq; obtain ⟨x0, x1, x2, x3, xf, xl⟩ := BV.four) | (go_at_call 57; refine (HW.out _ _ HWA).mono ?_; rintro e wq ⟨rfl, hbq⟩; clear x0 x1 x2 x3 xf xl; replace BV := BV.below hbq; replace hr := hr.below hbq; replace HWA := HWA.below hbq; replace hb := chain hb hbq; clear hbq; obtain ⟨x0, x1, x2, x3, xf, xl⟩ := BV.four))
      go_ret2
      exact ⟨rfl, hb⟩
    | true =>
      have e1 : bnI p c h s xs = (bnN (nats xs) c.toNat : Int) := by simp [bnI, z, y]
      have e2 : bnE p c h s xs = 0 := by simp [bnE, z, y]
      rw [e1, e2]
      rw [wyI_few y] at hW
      have hpos := cnt_pos h.toNat c.toNat
      have hsm : cnt h.toNat c.toNat ≤ 1000000 := by simpa [fewB] using y
      have hK := fun W gg (r : IRow W a xs) (q : WaysAt W gg) => bearoffNumberM_any p h s c.toNat gg a n cap (nats xs) xs W (by omega) (by omega) (by omega) hn (by omega) s2 s3 r q
      rw [show ((c.toNat : Nat) : Int) = c by omega] at hK
      obtain ⟨x, hx⟩ : ∃ x, cnt h.toNat c.toNat = x := ⟨_, rfl⟩
      rw [hx] at hW hpos
      have hx0 : (1 : Int) ≤ (x : Int) := by omega
      obtain ⟨r, hr0⟩ : ∃ r, bnN (nats xs) c.toNat = r := ⟨_, rfl⟩
      rw [hr0] at hK ⊢
      have HW := Lib.hid hW
      have HK := Lib.hid hK
      clear hW hK e1 e2 hok hvs hv s1 s2 s3 z y hx hr0 hsm hpos
      go_enter Try.func30, Try.ntmps30
      go_wp2_with (first | (go_at_call 60; refine (HC.out _ hr).mono ?_; rintro e wq ⟨rfl, hbq⟩; clear x0 x1 x2 x3 xf xl; replace BV := BV.below hbq; replace hr := hr.below hbq; replace hb := chain hb hbq; clear hbq; obtain ⟨x0, x1, x2, x3, xf, xl⟩ := BV.four) | (go_at_call 56; refine (countWays_any _).mono ?_; rintro e wq ⟨g, rfl, hgw, HWA, hbq⟩; clear x0 x1 x2 x3 xf xl; replace BV := BV.below hbq; replace hr := hr.below hbq; replace hb := chain hb hbq; clear hbq; obtain ⟨x0, x1, x2, x3, xf, xl⟩ := BV.four) | (go_at_call 57; refine (HW.out _ _ HWA).mono ?_; rintro e wq ⟨rfl, hbq⟩; clear x0 x1 x2 x3 xf xl; replace BV := BV.below hbq; replace hr := hr.below hbq; replace HWA := HWA.below hbq; replace hb := chain hb hbq; clear hbq; obtain ⟨x0, x1, x2, x3, xf, xl⟩ := BV.four) | (go_at_call 65; refine (HK.out _ _ hr HWA).mono ?_; rintro e wq ⟨rfl, hbq⟩; clear x0 x1 x2 x3 xf xl; replace BV := BV.below hbq; replace hb := chain hb hbq; clear hbq; obtain ⟨x0, x1, x2, x3, xf, xl⟩ := BV.four))
      go_ret2
      exact ⟨rfl, hb⟩
set_option maxHeartbeats 1000000 in
theorem specBearoffNumber_any (p c h s : Int) (a : Option Addr) (n cap : Nat) (xs : List Int) (w : World) (hn : xs.length = n) (hle : n ≤ 1048576) (hr : IRow w a xs) :
    Calls Try.prog 29 #[.agg #[.int .i64 p, .int .i64 c, .int .i64 h, .int .i64 s], .slice a n cap] w fun e w' => e = .returned (.tuple #[.int .i64 (bnI p c h s xs), .int .i64 (bnE p c h s xs)]) ∧ Below w.heap.size w w' := by
  have BV := Blk.new w #[.int .i64 p, .int .i64 c, .int .i64 h, .int .i64 s] 26
  have hb : Below w.heap.size w (w.alloc (.cells #[.int .i64 p, .int .i64 c, .int .i64 h, .int .i64 s] 26)) := (Below.refl _ _).alloc (Nat.le_refl _) _
  obtain ⟨x0, x1, x2, x3, xf, xl⟩ := BV.four
  have hC := fun W (r : IRow W a xs) => l10Code_any p c h s a n cap xs W hn hle r
  replace hr := hr.below hb
  cases z : okP p c h s xs with
  | false =>
    have e1 : bnI p c h s xs = 0 := by simp [bnI, z]
    have e2 : bnE p c h s xs = bcE p c h s xs := by simp [bnE, z]
    have e3 : bcE p c h s xs ≠ 0 := fun q => by have := okP_of q; rw [z] at this; simp at this
    rw [e1, e2]
    obtain ⟨e, he⟩ : ∃ e, bcE p c h s xs = e := ⟨_, rfl⟩
    rw [he] at hC e3 ⊢
    have z1 : (e != 0) = true := by rw [bne_iff_ne]; exact e3
    have HC := Lib.hid hC
    clear hC e1 e2 he z e3
    go_enter Try.func29, Try.ntmps29
    go_wp2_with (first | (go_at_call 58; refine (HC.out _ hr).mono ?_; rintro e wq ⟨rfl, hbq⟩; clear x0 x1 x2 x3 xf xl; replace BV := BV.below hbq; replace hr := hr.below hbq; replace hb := chain hb hbq; clear hbq; obtain ⟨x0, x1, x2, x3, xf, xl⟩ := BV.four))
    go_ret2
    exact ⟨rfl, hb⟩
  | true =>
    have hok := okP_parts z
    have hvs := okP_v z
    have hv := vB_iff.1 hvs.1
    obtain ⟨s1, s2, s3⟩ := side_nats hvs.2 (by omega)
    rw [bcE_of z] at hC
    have HC := Lib.hid hC
    clear hC
    have hW := fun W => specBearoffCount_any p c h s W
    rw [show bcI p c h s = wyI h.toNat c.toNat by simp [bcI, hvs.1]] at hW
    cases y : fewB c h with
    | false =>
      have e1 : bnI p c h s xs = 0 := by simp [bnI, y]
      have e2 : bnE p c h s xs = 3 := by simp [bnE, z, y]
      rw [e1, e2]
      rw [wyI_many y] at hW
      have HW := Lib.hid hW
      clear hW e1 e2 hok hvs hv s1 s2 s3 z y
      go_enter Try.func29, Try.ntmps29
      go_wp2_with (first | (go_at_call 58; refine (HC.out _ hr).mono ?_; rintro e wq ⟨rfl, hbq⟩; clear x0 x1 x2 x3 xf xl; replace BV := BV.below hbq; replace hr := hr.below hbq; replace hb := chain hb hbq; clear hbq; obtain ⟨x0, x1, x2, x3, xf, xl⟩ := BV.four) | (go_at_call 21; refine (HW.out _).mono ?_; rintro e wq ⟨rfl, hbq⟩; clear x0 x1 x2 x3 xf xl; replace BV := BV.below hbq; replace hr := hr.below hbq; replace hb := chain hb hbq; clear hbq; obtain ⟨x0, x1, x2, x3, xf, xl⟩ := BV.four))
      go_ret2
      exact ⟨rfl, hb⟩
    | true =>
      have e1 : bnI p c h s xs = (bnN (nats xs) c.toNat : Int) := by simp [bnI, z, y]
      have e2 : bnE p c h s xs = 0 := by simp [bnE, z, y]
      rw [e1, e2]
      rw [wyI_few y] at hW
      have hpos := cnt_pos h.toNat c.toNat
      have hsm : cnt h.toNat c.toNat ≤ 1000000 := by simpa [fewB] using y
      have hK := fun W (r : IRow W a xs) => l10Number_any p h s c.toNat a n cap (nats xs) xs W (by omega) (by omega) hn (by omega) s2 (by rw [show n = h.toNat by omega]; exact hsm) s3 r
      rw [show ((c.toNat : Nat) : Int) = c by omega] at hK
      obtain ⟨x, hx⟩ : ∃ x, cnt h.toNat c.toNat = x := ⟨_, rfl⟩
      rw [hx] at hW hpos
      have hx0 : (1 : Int) ≤ (x : Int) := by omega
      obtain ⟨r, hr0⟩ : ∃ r, bnN (nats xs) c.toNat = r := ⟨_, rfl⟩
      rw [hr0] at hK ⊢
      have HW := Lib.hid hW
      have HK := Lib.hid hK
      clear hW hK e1 e2 hok hvs hv s1 s2 s3 z y hx hr0 hsm hpos
      go_enter Try.func29, Try.ntmps29
      go_wp2_with (first | (go_at_call 58; refine (HC.out _ hr).mono ?_; rintro e wq ⟨rfl, hbq⟩; clear x0 x1 x2 x3 xf xl; replace BV := BV.below hbq; replace hr := hr.below hbq; replace hb := chain hb hbq; clear hbq; obtain ⟨x0, x1, x2, x3, xf, xl⟩ := BV.four) | (go_at_call 21; refine (HW.out _).mono ?_; rintro e wq ⟨rfl, hbq⟩; clear x0 x1 x2 x3 xf xl; replace BV := BV.below hbq; replace hr := hr.below hbq; replace hb := chain hb hbq; clear hbq; obtain ⟨x0, x1, x2, x3, xf, xl⟩ := BV.four) | (go_at_call 64; refine (HK.out _ hr).mono ?_; rintro e wq ⟨rfl, hbq⟩; clear x0 x1 x2 x3 xf xl; replace BV := BV.below hbq; replace hb := chain hb hbq; clear hbq; obtain ⟨x0, x1, x2, x3, xf, xl⟩ := BV.four))
      go_ret2
      exact ⟨rfl, hb⟩
set_option maxHeartbeats 1000000 in
theorem bearoffAt_any (p c h s k : Int) (w : World) :
    Calls Try.prog 32 #[.agg #[.int .i64 p, .int .i64 c, .int .i64 h, .int .i64 s], .int .i64 k] w (SliceGot2 (baL p c h s k) (baE p c h s k) w) := by
  have BV := Blk.new w #[.int .i64 p, .int .i64 c, .int .i64 h, .int .i64 s] 26
  have hb : Below w.heap.size w (w.alloc (.cells #[.int .i64 p, .int .i64 c, .int .i64 h, .int .i64 s] 26)) := (Below.refl _ _).alloc (Nat.le_refl _) _
  obtain ⟨x0, x1, x2, x3, xf, xl⟩ := BV.four
  have hV := fun W => valid_any p c h s W
  by_cases g : vB p c h s = true
  rotate_left
  · rw [baL, baE, if_neg g, if_neg (fun z => g z.1)]
    replace g : vB p c h s = false := by simpa using g
    rw [g] at hV
    have HV := Lib.hid hV
    clear hV
    go_enter Try.func32, Try.ntmps32
    go_wp2_with (first | (go_at_call 53; refine (HV.out _).mono ?_; rintro e wq ⟨rfl, hbq⟩; clear x0 x1 x2 x3 xf xl; replace BV := BV.below hbq; replace hb := chain hb hbq; clear hbq; obtain ⟨x0, x1, x2, x3, xf, xl⟩ := BV.four))
    go_ret2
    exact ⟨none, 0, rfl, .inl ⟨rfl, rfl⟩, hb⟩
  have hv := vB_iff.1 g
  rw [g] at hV
  have HV := Lib.hid hV
  clear hV
  have hW := fun W gg (q : WaysAt W gg) => bearoffCountM_any p s c.toNat h.toNat gg W (by omega) (by omega) q
  rw [show ((c.toNat : Nat) : Int) = c by omega, show ((h.toNat : Nat) : Int) = h by omega] at hW
  cases y : fewB c h with
  | false =>
    rw [baL, baE, if_pos g, if_neg (by simp [y]), if_neg (by simp [y])]
    rw [wyI_many y] at hW
    have HW := Lib.hid hW
    clear hW g hv y
    go_enter Try.func32, Try.ntmps32
    go_wp2_with (first | (go_at_call 53; refine (HV.out _).mono ?_; rintro e wq ⟨rfl, hbq⟩; clear x0 x1 x2 x3 xf xl; replace BV := BV.below hbq; replace hb := chain hb hbq; clear hbq; obtain ⟨x0, x1, x2, x3, xf, xl⟩ := BV.four) | (go_at_call 56; refine (countWays_any _).mono ?_; rintro e wq ⟨g, rfl, hgw, HWA, hbq⟩; clear x0 x1 x2 x3 xf xl; replace BV := BV.below hbq; replace hb := chain hb hbq; clear hbq; obtain ⟨x0, x1, x2, x3, xf, xl⟩ := BV.four) | (go_at_call 57; refine (HW.out _ _ HWA).mono ?_; rintro e wq ⟨rfl, hbq⟩; clear x0 x1 x2 x3 xf xl; replace BV := BV.below hbq; replace HWA := HWA.below hbq; replace hb := chain hb hbq; clear hbq; obtain ⟨x0, x1, x2, x3, xf, xl⟩ := BV.four))
    go_ret2
    exact ⟨none, 0, rfl, .inl ⟨rfl, rfl⟩, hb⟩
  | true =>
    rw [wyI_few y] at hW
    have hpos := cnt_pos h.toNat c.toNat
    have hsm : cnt h.toNat c.toNat ≤ 1000000 := by simpa [fewB] using y
    by_cases z : okK c h k = true
    rotate_left
    · rw [baL, baE, if_pos g, if_pos y, if_neg z, if_neg (fun q => z q.2.2)]
      simp only [okK, decide_eq_true_eq] at z
      obtain ⟨x, hx⟩ : ∃ x, cnt h.toNat c.toNat = x := ⟨_, rfl⟩
      rw [hx] at hW hpos hsm z
      have hx0 : (1 : Int) ≤ (x : Int) := by omega
      have hx1 : (x : Int) ≤ 1000000 := by omega
      have HW := Lib.hid hW
      clear hW g hv y hx hpos hsm
      have xn : ¬ (x : Int) < 0 := by omega
      by_cases z0 : k < 0
      · clear z
        go_enter Try.func32, Try.ntmps32
        go_wp2_with (first | (go_at_call 53; refine (HV.out _).mono ?_; rintro e wq ⟨rfl, hbq⟩; clear x0 x1 x2 x3 xf xl; replace BV := BV.below hbq; replace hb := chain hb hbq; clear hbq; obtain ⟨x0, x1, x2, x3, xf, xl⟩ := BV.four) | (go_at_call 56; refine (countWays_any _).mono ?_; rintro e wq ⟨g, rfl, hgw, HWA, hbq⟩; clear x0 x1 x2 x3 xf xl; replace BV := BV.below hbq; replace hb := chain hb hbq; clear hbq; obtain ⟨x0, x1, x2, x3, xf, xl⟩ := BV.four) | (go_at_call 57; refine (HW.out _ _ HWA).mono ?_; rintro e wq ⟨rfl, hbq⟩; clear x0 x1 x2 x3 xf xl; replace BV := BV.below hbq; replace HWA := HWA.below hbq; replace hb := chain hb hbq; clear hbq; obtain ⟨x0, x1, x2, x3, xf, xl⟩ := BV.four))
        go_ret2
        exact ⟨none, 0, rfl, .inl ⟨rfl, rfl⟩, hb⟩
      · have z1 : (x : Int) ≤ k := by omega
        clear z
        go_enter Try.func32, Try.ntmps32
        go_wp2_with (first | (go_at_call 53; refine (HV.out _).mono ?_; rintro e wq ⟨rfl, hbq⟩; clear x0 x1 x2 x3 xf xl; replace BV := BV.below hbq; replace hb := chain hb hbq; clear hbq; obtain ⟨x0, x1, x2, x3, xf, xl⟩ := BV.four) | (go_at_call 56; refine (countWays_any _).mono ?_; rintro e wq ⟨g, rfl, hgw, HWA, hbq⟩; clear x0 x1 x2 x3 xf xl; replace BV := BV.below hbq; replace hb := chain hb hbq; clear hbq; obtain ⟨x0, x1, x2, x3, xf, xl⟩ := BV.four) | (go_at_call 57; refine (HW.out _ _ HWA).mono ?_; rintro e wq ⟨rfl, hbq⟩; clear x0 x1 x2 x3 xf xl; replace BV := BV.below hbq; replace HWA := HWA.below hbq; replace hb := chain hb hbq; clear hbq; obtain ⟨x0, x1, x2, x3, xf, xl⟩ := BV.four))
        go_ret2
        exact ⟨none, 0, rfl, .inl ⟨rfl, rfl⟩, hb⟩

    · rw [baL, baE, if_pos g, if_pos y, if_pos z, if_pos ⟨g, y, z⟩]
      simp only [okK, decide_eq_true_eq] at z
      obtain ⟨K, rfl⟩ := Int.eq_ofNat_of_zero_le z.1
      have hK := fun W gg (q : WaysAt W gg) => bearoffAtM_any p s c.toNat h.toNat K gg W (by omega) (by omega) (by omega) (by omega) q
      rw [show ((c.toNat : Nat) : Int) = c by omega, show ((h.toNat : Nat) : Int) = h by omega] at hK
      have hlen := unrI_length h.toNat K c.toNat (by omega)
      rw [show ((K : Int)).toNat = K by omega]
      obtain ⟨out, hout⟩ : ∃ out, unrI h.toNat K c.toNat = out := ⟨_, rfl⟩
      rw [hout] at hK hlen ⊢
      obtain ⟨ln, hln⟩ : ∃ ln, h.toNat = ln := ⟨_, rfl⟩
      rw [hln] at hlen
      try rw [hln] at hK
      obtain ⟨x, hx⟩ : ∃ x, cnt h.toNat c.toNat = x := ⟨_, rfl⟩
      rw [hx] at hW hpos hsm z
      have hx0 : (1 : Int) ≤ (x : Int) := by omega
      have hx1 : (x : Int) ≤ 1000000 := by omega
      have z0 : (0 : Int) ≤ (K : Int) := z.1
      have z1 : (K : Int) < (x : Int) := z.2
      have HW := Lib.hid hW
      have HK := Lib.hid hK
      have HL := Lib.hid hlen
      clear hW hK g hv y hx hpos hsm hlen hln hout z
      have xn : ¬ (x : Int) < 0 := by omega
      go_enter Try.func32, Try.ntmps32
      go_wp2_with (first | (go_at_call 53; refine (HV.out _).mono ?_; rintro e wq ⟨rfl, hbq⟩; clear x0 x1 x2 x3 xf xl; replace BV := BV.below hbq; replace hb := chain hb hbq; clear hbq; obtain ⟨x0, x1, x2, x3, xf, xl⟩ := BV.four) | (go_at_call 56; refine (countWays_any _).mono ?_; rintro e wq ⟨g, rfl, hgw, HWA, hbq⟩; clear x0 x1 x2 x3 xf xl; replace BV := BV.below hbq; replace hb := chain hb hbq; clear hbq; obtain ⟨x0, x1, x2, x3, xf, xl⟩ := BV.four) | (go_at_call 57; refine (HW.out _ _ HWA).mono ?_; rintro e wq ⟨rfl, hbq⟩; clear x0 x1 x2 x3 xf xl; replace BV := BV.below hbq; replace HWA := HWA.below hbq; replace hb := chain hb hbq; clear hbq; obtain ⟨x0, x1, x2, x3, xf, xl⟩ := BV.four) | (go_at_call 68; refine (HK.out _ _ HWA).mono ?_; have hsz := hb.size; rintro e wq ⟨gL, rfl, hgL, RL, hbq⟩; clear x0 x1 x2 x3 xf xl; replace BV := BV.below hbq; replace hb := chain hb hbq; have hgL2 : w.heap.size ≤ gL := Nat.le_trans hsz hgL; clear hbq; obtain ⟨x0, x1, x2, x3, xf, xl⟩ := BV.four))
      go_ret2
      exact ⟨_, ln, by rw [List.length_reverse, HL.out]; rfl, .inr ⟨_, rfl, hgL2, RL.lt, RL⟩, hb⟩
set_option maxHeartbeats 1000000 in
theorem specBearoffAt_any (p c h s k : Int) (w : World) :
    Calls Try.prog 31 #[.agg #[.int .i64 p, .int .i64 c, .int .i64 h, .int .i64 s], .int .i64 k] w (SliceGot2 (baL p c h s k) (baE p c h s k) w) := by
  have BV := Blk.new w #[.int .i64 p, .int .i64 c, .int .i64 h, .int .i64 s] 26
  have hb : Below w.heap.size w (w.alloc (.cells #[.int .i64 p, .int .i64 c, .int .i64 h, .int .i64 s] 26)) := (Below.refl _ _).alloc (Nat.le_refl _) _
  obtain ⟨x0, x1, x2, x3, xf, xl⟩ := BV.four
  have hV := fun W => specIsVariant_any p c h s W
  by_cases g : vB p c h s = true
  rotate_left
  · rw [baL, baE, if_neg g, if_neg (fun z => g z.1)]
    replace g : vB p c h s = false := by simpa using g
    rw [g] at hV
    have HV := Lib.hid hV
    clear hV
    go_enter Try.func31, Try.ntmps31
    go_wp2_with (first | (go_at_call 51; refine (HV.out _).mono ?_; rintro e wq ⟨rfl, hbq⟩; clear x0 x1 x2 x3 xf xl; replace BV := BV.below hbq; replace hb := chain hb hbq; clear hbq; obtain ⟨x0, x1, x2, x3, xf, xl⟩ := BV.four))
    go_ret2
    exact ⟨none, 0, rfl, .inl ⟨rfl, rfl⟩, hb⟩
  have hv := vB_iff.1 g
  rw [g] at hV
  have HV := Lib.hid hV
  clear hV
  have hW := fun W => specBearoffCount_any p c h s W
  rw [show bcI p c h s = wyI h.toNat c.toNat by simp [bcI, g]] at hW
  cases y : fewB c h with
  | false =>
    rw [baL, baE, if_pos g, if_neg (by simp [y]), if_neg (by simp [y])]
    rw [wyI_many y] at hW
    have HW := Lib.hid hW
    clear hW g hv y
    go_enter Try.func31, Try.ntmps31
    go_wp2_with (first | (go_at_call 51; refine (HV.out _).mono ?_; rintro e wq ⟨rfl, hbq⟩; clear x0 x1 x2 x3 xf xl; replace BV := BV.below hbq; replace hb := chain hb hbq; clear hbq; obtain ⟨x0, x1, x2, x3, xf, xl⟩ := BV.four) | (go_at_call 21; refine (HW.out _).mono ?_; rintro e wq ⟨rfl, hbq⟩; clear x0 x1 x2 x3 xf xl; replace BV := BV.below hbq; replace hb := chain hb hbq; clear hbq; obtain ⟨x0, x1, x2, x3, xf, xl⟩ := BV.four))
    go_ret2
    exact ⟨none, 0, rfl, .inl ⟨rfl, rfl⟩, hb⟩
  | true =>
    rw [wyI_few y] at hW
    have hpos := cnt_pos h.toNat c.toNat
    have hsm : cnt h.toNat c.toNat ≤ 1000000 := by simpa [fewB] using y
    by_cases z : okK c h k = true
    rotate_left
    · rw [baL, baE, if_pos g, if_pos y, if_neg z, if_neg (fun q => z q.2.2)]
      simp only [okK, decide_eq_true_eq] at z
      obtain ⟨x, hx⟩ : ∃ x, cnt h.toNat c.toNat = x := ⟨_, rfl⟩
      rw [hx] at hW hpos hsm z
      have hx0 : (1 : Int) ≤ (x : Int) := by omega
      have hx1 : (x : Int) ≤ 1000000 := by omega
      have HW := Lib.hid hW
      clear hW g hv y hx hpos hsm
      have hI := fun W => l01In_any k 0 ((x : Int) - 1) W
      rw [show inB k 0 ((x : Int) - 1) = false by
        cases hq : inB k 0 ((x : Int) - 1) with
        | false => rfl
        | true => have := inB_iff.1 hq; omega] at hI
      have HI := Lib.hid hI
      clear hI z
      go_enter Try.func31, Try.ntmps31
      go_wp2_with (first | (go_at_call 51; refine (HV.out _).mono ?_; rintro e wq ⟨rfl, hbq⟩; clear x0 x1 x2 x3 xf xl; replace BV := BV.below hbq; replace hb := chain hb hbq; clear hbq; obtain ⟨x0, x1, x2, x3, xf, xl⟩ := BV.four) | (go_at_call 21; refine (HW.out _).mono ?_; rintro e wq ⟨rfl, hbq⟩; clear x0 x1 x2 x3 xf xl; replace BV := BV.below hbq; replace hb := chain hb hbq; clear hbq; obtain ⟨x0, x1, x2, x3, xf, xl⟩ := BV.four) | (go_at_call 66; refine (HI.out _).mono ?_; rintro e wq ⟨rfl, rfl⟩))
      go_ret2
      exact ⟨none, 0, rfl, .inl ⟨rfl, rfl⟩, hb⟩

    · rw [baL, baE, if_pos g, if_pos y, if_pos z, if_pos ⟨g, y, z⟩]
      simp only [okK, decide_eq_true_eq] at z
      obtain ⟨K, rfl⟩ := Int.eq_ofNat_of_zero_le z.1
      have hK := fun W => l10At_any p s c.toNat h.toNat K W (by omega) (by omega) hsm (by omega)
      rw [show ((c.toNat : Nat) : Int) = c by omega, show ((h.toNat : Nat) : Int) = h by omega] at hK
      have hlen := unrI_length h.toNat K c.toNat (by omega)
      rw [show ((K : Int)).toNat = K by omega]
      obtain ⟨out, hout⟩ : ∃ out, unrI h.toNat K c.toNat = out := ⟨_, rfl⟩
      rw [hout] at hK hlen ⊢
      obtain ⟨ln, hln⟩ : ∃ ln, h.toNat = ln := ⟨_, rfl⟩
      rw [hln] at hlen
      try rw [hln] at hK
      obtain ⟨x, hx⟩ : ∃ x, cnt h.toNat c.toNat = x := ⟨_, rfl⟩
      rw [hx] at hW hpos hsm z
      have hx0 : (1 : Int) ≤ (x : Int) := by omega
      have hx1 : (x : Int) ≤ 1000000 := by omega
      have z0 : (0 : Int) ≤ (K : Int) := z.1
      have z1 : (K : Int) < (x : Int) := z.2
      have HW := Lib.hid hW
      have HK := Lib.hid hK
      have HL := Lib.hid hlen
      clear hW hK g hv y hx hpos hsm hlen hln hout z
      have hI := fun W => l01In_any (K : Int) 0 ((x : Int) - 1) W
      rw [show inB (K : Int) 0 ((x : Int) - 1) = true from inB_iff.2 (by omega)] at hI
      have HI := Lib.hid hI
      clear hI
      go_enter Try.func31, Try.ntmps31
      go_wp2_with (first | (go_at_call 51; refine (HV.out _).mono ?_; rintro e wq ⟨rfl, hbq⟩; clear x0 x1 x2 x3 xf xl; replace BV := BV.below hbq; replace hb := chain hb hbq; clear hbq; obtain ⟨x0, x1, x2, x3, xf, xl⟩ := BV.four) | (go_at_call 21; refine (HW.out _).mono ?_; rintro e wq ⟨rfl, hbq⟩; clear x0 x1 x2 x3 xf xl; replace BV := BV.below hbq; replace hb := chain hb hbq; clear hbq; obtain ⟨x0, x1, x2, x3, xf, xl⟩ := BV.four) | (go_at_call 66; refine (HI.out _).mono ?_; rintro e wq ⟨rfl, rfl⟩) | (go_at_call 67; refine (HK.out _).mono ?_; have hsz := hb.size; rintro e wq ⟨gL, rfl, hgL, RL, hbq⟩; clear x0 x1 x2 x3 xf xl; replace BV := BV.below hbq; replace hb := chain hb hbq; have hgL2 : w.heap.size ≤ gL := Nat.le_trans hsz hgL; clear hbq; obtain ⟨x0, x1, x2, x3, xf, xl⟩ := BV.four))
      go_ret2
      exact ⟨_, ln, by rw [List.length_reverse, HL.out]; rfl, .inr ⟨_, rfl, hgL2, RL.lt, RL⟩, hb⟩
end Go.Proofs.Ythnkckflajkaiaa
