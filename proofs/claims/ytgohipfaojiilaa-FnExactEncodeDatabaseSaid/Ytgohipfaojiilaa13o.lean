/- Contracts of chapter 13: EncodeDatabase, of both sides. -/
import Derived.Test.Ytgohipfaojiilaa13m
import Derived.Test.Ytgohipfaojiilaa13n
namespace Go.Proofs.Ytgohipfaojiilaa
open Go.ChangeShapes Go.WideShapes Go.ChangeAt Go.RowKit
set_option linter.unusedVariables false
set_option linter.unusedSimpArgs false
set_option maxRecDepth 4000

theorem dbB_ready {p c h s kd : Int} {L : List Rl} (g : dbB p c h s kd L = true) : L.length ≤ 2500 ∧ L ≠ [] ∧ Rng L := by
  unfold dbB at g
  simp only [Bool.and_eq_true, decide_eq_true_eq] at g
  obtain ⟨gv, gk, gs, ga⟩ := g
  have hv := vB_iff.1 gv
  refine ⟨?_, ?_, fun r hr => ?_⟩
  · unfold szI at gs
    split at gs
    · split at gs <;> omega
    · omega
  · intro e
    subst e
    simp only [List.length_nil] at gs
    have hN : 0 ≤ wyI h.toNat c.toNat ∧ wyI h.toNat c.toNat ≤ 500 := by
      unfold szI at gs
      split at gs
      · assumption
      · omega
    rw [szI_in hN] at gs
    have h1 : 1 ≤ wyI h.toNat c.toNat := by
      have h0 := hN.1
      have hc : 1 ≤ cnt h.toNat c.toNat := cnt_pos _ _
      unfold wyI at h0 ⊢
      split at h0
      · rename_i q
        rw [if_pos q]
        omega
      · omega
    obtain ⟨N, hNN⟩ : ∃ N, wyI h.toNat c.toNat = N := ⟨_, rfl⟩
    rw [hNN] at h1 gs
    have h2 : 1 ≤ ecI N kd := by
      unfold ecI
      split
      · have : 1 * 1 ≤ N * N := Int.mul_le_mul h1 h1 (by omega) (by omega)
        omega
      · exact h1
    split at gs <;> omega
  · have hx := List.all_eq_true.1 ga r hr
    cases q : inB r.1 (-1000000000000000000) 1000000000000000000 with
    | true => simpa [inB] using q
    | false =>
      rw [xvB_num q] at hx
      cases hx
def edL (p c h s kd : Int) (L : List Rl) : List Int := if dbB p c h s kd L = true then encL p c h s kd L else []
def edC (p c h s kd : Int) (L : List Rl) : Int := if dbB p c h s kd L = true then 0 else 1
theorem edL_len (p c h s kd : Int) (L : List Rl) : (edL p c h s kd L).length ≤ 60000 := by
  unfold edL
  split
  · rename_i g
    obtain ⟨h1, h2, h3⟩ := dbB_ready g
    have := (enB_len (p := p) (c := c) (h := h) (s := s) (kd := kd) h1 h3).2
    simp only [encL, List.length_append, List.length_cons, List.length_nil]
    omega
  · simp
set_option maxHeartbeats 1000000 in
theorem encodeDatabase_any (p c h s kd : Int) (a : Option Addr) (k : Nat) (L : List Rl) (w : World) (hle : L.length ≤ 1048576) (HO : OX w a L) (hr : ∀ r ∈ L, -9223372036854775808 ≤ r.2 ∧ r.2 ≤ 9223372036854775807) :
    Calls Try.prog 8 #[.agg #[.int .i64 p, .int .i64 c, .int .i64 h, .int .i64 s, .int .i64 kd, .slice a L.length k]] w (B8.SliceGot2 (edL p c h s kd L) (edC p c h s kd L) w) := by
  have BD := Blk.new w #[.int .i64 p, .int .i64 c, .int .i64 h, .int .i64 s, .int .i64 kd, .slice a L.length k] 34
  have hb : Below w.heap.size w (w.alloc (.cells #[.int .i64 p, .int .i64 c, .int .i64 h, .int .i64 s, .int .i64 kd, .slice a L.length k] 34)) := (Below.refl _ _).alloc (Nat.le_refl _) _
  have hf := fun W (q : OX W a L) => hasForm_any p c h s kd a L.length k L W rfl hle q hr
  obtain ⟨x0, x1, x2, x3, x4, x5, xf, xl⟩ := BD.six
  cases g : dbB p c h s kd L with
  | false =>
    rw [g] at hf
    have e1 : edL p c h s kd L = [] := by simp [edL, g]
    have e2 : edC p c h s kd L = 1 := by simp [edC, g]
    rw [e1, e2]
    have HF := Lib.hid hf
    clear hf g e1 e2
    go_enter Try.func8, Try.ntmps8
    go_wp2_with fail
    refine (HF.out _ (HO.below hb)).mono ?_
    rintro e w1 ⟨rfl, hb1⟩
    go_wp2_with fail
    refine bodyPost_ret (v := .tuple #[.slice none 0 0, .int .i64 1]) (by simp [results, Try.results8, go_sem]) rfl ?_
    exact ⟨none, 0, rfl, .inl ⟨rfl, rfl⟩, chain hb hb1⟩
  | true =>
    rw [g] at hf
    obtain ⟨h1, h2, h3⟩ := dbB_ready g
    have e1 : edL p c h s kd L = encL p c h s kd L := by simp [edL, g]
    have e2 : edC p c h s kd L = 0 := by simp [edC, g]
    rw [e1, e2]
    have HEN := Lib.hid (fun W (q : OX W a L) => encoded_any p c h s kd a k L W h1 h3 q)
    have HF := Lib.hid hf
    obtain ⟨R, hR⟩ : ∃ R, encL p c h s kd L = R := ⟨_, rfl⟩
    rw [hR] at HEN ⊢
    clear hf g e1 e2 h1 h2 h3 hR
    go_enter Try.func8, Try.ntmps8
    go_wp2_with fail
    refine (HF.out _ (HO.below hb)).mono ?_
    rintro e w1 ⟨rfl, hb1⟩
    clear x0 x1 x2 x3 x4 x5 xf xl
    replace BD := BD.below hb1
    replace hb := chain hb hb1
    clear hb1
    obtain ⟨x0, x1, x2, x3, x4, x5, xf, xl⟩ := BD.six
    go_wp2_with fail
    refine (HEN.out _ (HO.below hb)).mono ?_
    rintro e w2 ⟨v, rfl, hO, hb2⟩
    have hs := hb.size
    obtain ⟨aV, kV, rfl⟩ := hO.form
    go_wp2_with fail
    refine bodyPost_ret (v := .tuple #[.slice aV R.length kV, .int .i64 0]) (by simp [results, Try.results8, go_sem]) rfl ?_
    exact ⟨aV, kV, rfl, hO.osl.mono hs (Nat.le_refl _), chain hb hb2⟩
set_option maxHeartbeats 1000000 in
theorem specEncodeDatabase_any (p c h s kd : Int) (a : Option Addr) (k : Nat) (L : List Rl) (w : World) (hle : L.length ≤ 1048576) (HO : OX w a L) (hr : ∀ r ∈ L, -9223372036854775808 ≤ r.2 ∧ r.2 ≤ 9223372036854775807) :
    Calls Try.prog 6 #[.agg #[.int .i64 p, .int .i64 c, .int .i64 h, .int .i64 s, .int .i64 kd, .slice a L.length k]] w (B8.SliceGot2 (edL p c h s kd L) (edC p c h s kd L) w) := by
  have BD := Blk.new w #[.int .i64 p, .int .i64 c, .int .i64 h, .int .i64 s, .int .i64 kd, .slice a L.length k] 34
  have hb : Below w.heap.size w (w.alloc (.cells #[.int .i64 p, .int .i64 c, .int .i64 h, .int .i64 s, .int .i64 kd, .slice a L.length k] 34)) := (Below.refl _ _).alloc (Nat.le_refl _) _
  have hf := fun W (q : OX W a L) => specIsDatabase_any p c h s kd a L.length k L W rfl hle q hr
  obtain ⟨x0, x1, x2, x3, x4, x5, xf, xl⟩ := BD.six
  cases g : dbB p c h s kd L with
  | false =>
    rw [g] at hf
    have e1 : edL p c h s kd L = [] := by simp [edL, g]
    have e2 : edC p c h s kd L = 1 := by simp [edC, g]
    rw [e1, e2]
    have HF := Lib.hid hf
    clear hf g e1 e2
    go_enter Try.func6, Try.ntmps6
    go_wp2_with fail
    refine (HF.out _ (HO.below hb)).mono ?_
    rintro e w1 ⟨rfl, hb1⟩
    go_wp2_with fail
    refine bodyPost_ret (v := .tuple #[.slice none 0 0, .int .i64 1]) (by simp [results, Try.results6, go_sem]) rfl ?_
    exact ⟨none, 0, rfl, .inl ⟨rfl, rfl⟩, chain hb hb1⟩
  | true =>
    rw [g] at hf
    obtain ⟨h1, h2, h3⟩ := dbB_ready g
    have e1 : edL p c h s kd L = encL p c h s kd L := by simp [edL, g]
    have e2 : edC p c h s kd L = 0 := by simp [edC, g]
    rw [e1, e2]
    have HEN := Lib.hid (fun W (q : OX W a L) => l13Encode_any p c h s kd a k L W h1 h2 h3 q)
    have HF := Lib.hid hf
    obtain ⟨R, hR⟩ : ∃ R, encL p c h s kd L = R := ⟨_, rfl⟩
    rw [hR] at HEN ⊢
    clear hf g e1 e2 h1 h2 h3 hR
    go_enter Try.func6, Try.ntmps6
    go_wp2_with fail
    refine (HF.out _ (HO.below hb)).mono ?_
    rintro e w1 ⟨rfl, hb1⟩
    clear x0 x1 x2 x3 x4 x5 xf xl
    replace BD := BD.below hb1
    replace hb := chain hb hb1
    clear hb1
    obtain ⟨x0, x1, x2, x3, x4, x5, xf, xl⟩ := BD.six
    go_wp2_with fail
    refine (HEN.out _ (HO.below hb)).mono ?_
    rintro e w2 ⟨v, rfl, hO, hb2⟩
    have hs := hb.size
    obtain ⟨aV, kV, rfl⟩ := hO.form
    go_wp2_with fail
    refine bodyPost_ret (v := .tuple #[.slice aV R.length kV, .int .i64 0]) (by simp [results, Try.results6, go_sem]) rfl ?_
    exact ⟨aV, kV, rfl, hO.osl.mono hs (Nat.le_refl _), chain hb hb2⟩
end Go.Proofs.Ytgohipfaojiilaa
