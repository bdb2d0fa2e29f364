/- Contracts of the program's functions that write several steps as a text. -/
import Derived.Test.YthfhiggageejbaaDoor06h
import Derived.Test.YthfhiggageejbaaDoorShelf
import Derived.Lib.Walk
namespace Go.Proofs.YthfhiggageejbaaDoor
open Go.ChangeShapes Go.WideShapes Go.ChangeAt Go.RowKit
set_option linter.unusedVariables false
set_option linter.unusedSimpArgs false

/-- The text of steps of a variant. -/
def sttL (p c h s : Int) (L : List St4) : List UInt8 := if vB p c h s = true then stsT p s L else []
theorem stsT_bad {p s : Int} {L : List St4} {k : Nat} {x : St4} (hk : L[k]? = some x) (h : plX p s x = false) (h4 : L.length ≤ 4) : stsT p s L = [] := by
  unfold stsT
  have hm : x ∈ L := List.mem_of_getElem? hk
  rw [if_neg (by omega), if_neg (by rintro rfl; simp at hm), if_neg]
  intro q
  rw [List.all_eq_true] at q
  rw [q x hm] at h
  cases h
theorem stsT_good {p s : Int} {L : List St4} (h : L.all (plX p s) = true) (h0 : 0 < L.length) (h4 : L.length ≤ 4) : stsT p s L = stJ p L := by
  unfold stsT
  rw [if_neg (by omega), if_neg (by rintro rfl; simp at h0), if_pos h]
set_option maxRecDepth 8000 in
set_option maxHeartbeats 2000000 in
theorem stepsText_any (p c h s : Int) (a : Option Addr) (n cap lo hi : Nat) (L : List Stp) (w : World) (hn : L.length = n) (hle : n ≤ 1048576) (g : vB p c h s = true) (hr : OSt lo hi w a L) :
    Calls Tryd.prog 47 #[.agg #[.int .i64 p, .int .i64 c, .int .i64 h, .int .i64 s], .slice a n cap] w fun e w' => e = .returned (.string ⟨(stsT p s L).toArray⟩) ∧ Below w.heap.size w w' := by
  have hv := vB_iff.1 g
  have BV := Blk.new w #[.int .i64 p, .int .i64 c, .int .i64 h, .int .i64 s] 29
  have hb : Below w.heap.size w (w.alloc (.cells #[.int .i64 p, .int .i64 c, .int .i64 h, .int .i64 s] 29)) := (Below.refl _ _).alloc (Nat.le_refl _) _
  by_cases h4 : 4 < n
  · have e4 : decide (4 < (n : Int)) = true := by simp; omega
    have e4b : decide (4 < n) = true := by simp; omega
    have eT : stsT p s L = [] := by unfold stsT; rw [if_pos (by omega)]
    rw [eT]
    clear eT hv g hr h4
    go_enter Tryd.func47, Tryd.ntmps47
    go_wp2
    go_ret
    exact ⟨rfl, hb⟩
  · have e4 : decide (4 < (n : Int)) = false := by simp; omega
    have e4b : decide (4 < n) = false := by simp; omega
    obtain ⟨T, hT⟩ : ∃ T : ByteArray, T = ⟨(stsT p s L).toArray⟩ := ⟨_, rfl⟩
    rw [← hT]
    have hN : ∀ k x, L[k]? = some x → plX p s x = false → T = ⟨#[]⟩ := fun k x hk hx => by rw [hT, stsT_bad hk hx (by omega)]
    have hA : L.all (plX p s) = true → 0 < L.length → T = ⟨(stJ p L).toArray⟩ := fun q1 q2 => by rw [hT, stsT_good q1 q2 (by omega)]
    have h0 : L.length = 0 → T = ⟨#[45]⟩ := fun q => by
      rw [hT, List.eq_nil_of_length_eq_zero q]
      rfl
    have hlJ : ∀ D : List ByteArray, D.map (·.data.toList) = L.map (stX p) → L.all (plX p s) = true → (Lib.join (D.map (·.data.toList)) (⟨#[32]⟩ : ByteArray).data.toList).length ≤ 140737488355328 := fun D hD ha => by
      have := stJ_len (p := p) (s := s) (by omega) (by omega) L ha
      rw [hD]
      show (stJ p L).length ≤ _
      omega
    have HN := Lib.hid hN
    have HA := Lib.hid hA
    have H0 := Lib.hid h0
    have HJ := Lib.hid hlJ
    have HV := Lib.hid hv
    have hpl := fun (f t d : Int) (hh : Bool) W => isPlain_any p c h s f t d hh W g
    have HPL := Lib.hid hpl
    have hbo := fun (f t d : Int) (hh : Bool) W (g0 : plB p s f t d hh = true) => bytesOfStep_any p c h s f t d hh W g g0
    have HBO := Lib.hid hbo
    clear hN hA h0 hlJ hv hpl hbo hT g h4
    replace hr := hr.below hb
    go_enter Tryd.func47, Tryd.ntmps47
    go_wp2_with fail
    generalize w.alloc (.cells #[.int .i64 p, .int .i64 c, .int .i64 h, .int .i64 s] 29) = v0 at *
    go_loopg [5, 13] n (fun m q i wr => ∃ (k : Nat) (D : List ByteArray), k ≤ n ∧ m = n - k ∧ i = .int .i64 k ∧ D.map (·.data.toList) = (L.take k).map (stX p) ∧ (L.take k).all (plX p s) = true ∧ OwnStr wr v0.heap.size q D ∧ Below v0.heap.size v0 wr)
    case atStart => exact ⟨0, [], by omega, by omega, rfl, rfl, rfl, OwnStr.nil _ _, Below.refl _ _⟩
    case round =>
      obtain ⟨k, D, hk, hm, rfl, hD, hall, hO, hbel⟩ := hrel
      obtain ⟨x0, x1, x2, x3, xf, xl⟩ := (BV.below hbel).four
      have hszb := hbel.size
      by_cases hlt : k < n
      · have hlt' : (k : Int) < (n : Int) := by omega
        obtain ⟨gg, rfl, hR⟩ := (hr.below hbel).row (k := k) (by omega)
        obtain ⟨⟨f, t, d, hh⟩, hx⟩ : ∃ x, L[k]? = some x := ⟨L[k], List.getElem?_eq_getElem (by omega)⟩
        obtain ⟨r0, r1, r2, r3⟩ := hR.four k _ hx
        have BS := Blk.new wr #[.int .i64 f, .int .i64 t, .int .i64 d, .bool hh] 38
        have HX := Lib.hid hx
        have HD := Lib.hid hD
        have HAL := Lib.hid hall
        obtain ⟨z0, z1, z2, z3, zf, zl⟩ := BS.four
        cases hp : plB p s f t d hh with
        | false =>
          have hpl := fun W => HPL.out f t d hh W
          rw [hp] at hpl
          have HP := Lib.hid hpl
          have eT := HN.out k _ hx hp
          have ET := Lib.hid eT
          clear hpl hx hD hall hp eT
          go_wp2_with (first | (go_at_call 39; refine (HP.out _).mono ?_; clear HP; rintro e w5 ⟨rfl, hb5⟩))
          go_ret
          exact ⟨by rw [ET.out]; rfl, chain hb (chain hbel (from_alloc hb5))⟩
        | true =>
          have hpl := fun W => HPL.out f t d hh W
          rw [hp] at hpl
          have HP := Lib.hid hpl
          have hbo := fun W => HBO.out f t d hh W hp
          have htx := fun W => bytesText_any (stT p f t d hh) W (stT_len (by have := HV.out; omega) (by have := HV.out; omega) hp).1
          obtain ⟨K, hK⟩ : ∃ K, bytV (stT p f t d hh) = K := ⟨_, rfl⟩
          obtain ⟨U, hU⟩ : ∃ U : ByteArray, U = ⟨(stT p f t d hh).toArray⟩ := ⟨_, rfl⟩
          rw [hK] at hbo htx
          rw [← hU] at htx
          have HB := Lib.hid hbo
          have HT := Lib.hid htx
          have hD2 : (D ++ [U]).map (·.data.toList) = (L.take (k + 1)).map (stX p) := by
            rw [List.take_add_one, hx, List.map_append, List.map_append, hD, hU]
            rfl
          have hal2 : (L.take (k + 1)).all (plX p s) = true := by
            rw [List.take_add_one, hx, List.all_append, hall]
            simp [plX, hp]
          have HD2 := Lib.hid hD2
          have HAL2 := Lib.hid hal2
          have hDl : D.length ≤ 1048576 := by
            have := congrArg List.length hD
            simp at this
            omega
          clear hpl hbo htx hK hU hx hD hall hp hD2 hal2 HD HAL HX
          go_wp2_with (first | (go_at_call 39; refine (HP.out _).mono ?_; clear HP; rintro e w5 ⟨rfl, hb5⟩; obtain ⟨x0, x1, x2, x3, xf, xl⟩ := (((BV.below hbel).alloc (.cells #[.int .i64 f, .int .i64 t, .int .i64 d, .bool hh] 38)).below hb5).four; obtain ⟨z0, z1, z2, z3, zf, zl⟩ := (BS.below hb5).four) | (go_at_call 40; refine (HB.out _).mono ?_; clear HB; rintro e w6 ⟨rfl, hb6⟩) | (go_at_call 41; refine (HT.out _).mono ?_; clear HT; rintro e w7 ⟨rfl, hb7⟩) | (at_builtin; refine wp_pushStr rfl _ _ rfl v0.heap.size _ D rfl ((((hO.alloc _).below hb5).below hb6).below hb7) U rfl rfl hDl (Nat.le_trans (Nat.le_trans (Nat.le_trans (Nat.le_trans hszb (by simp)) hb5.size) hb6.size) hb7.size) ?_; intro v2 w8 hO2 hb8 _))
          go_roundg (n - (k + 1))
          case measure => omega
          case rel => exact ⟨k + 1, D ++ [U], by omega, rfl, by go_num, HD2.out, HAL2.out, hO2, (chain (chain (chain hbel (from_alloc hb5)) hb6) hb7).trans hb8⟩
      · obtain rfl : k = n := by omega
        rw [List.take_of_length_le (by omega)] at hD hall
        have hlen : D.length = L.length := by
          have := congrArg List.length hD
          simpa using this
        by_cases hz : L.length = 0
        · have eT := H0.out hz
          have hDn : D = [] := List.eq_nil_of_length_eq_zero (by omega)
          subst hDn
          obtain ⟨a0, k0, rfl⟩ := hO.form
          have ET := Lib.hid eT
          clear eT hD hall hlen hz hO HA HN H0 HJ
          go_wp2
          go_ret
          exact ⟨by rw [ET.out]; rfl, chain hb hbel⟩
        · obtain ⟨g0, k0, rfl, hg0, hk0, hcl⟩ := hO.cells (by omega)
          have eT := HA.out hall (by omega)
          have hj := fun W (q : ∀ (j : Nat) x, D[j]? = some x → W.cell? ⟨g0, 0 + j, none⟩ = some (.string x)) (q2 : g0 < W.heap.size) => Tryd.strings_Join g0 0 k0 D ⟨#[32]⟩ W q q2 (by omega) hk0 (HJ.out D hD hall)
          have eJ : (⟨(Lib.join (D.map (·.data.toList)) (⟨#[32]⟩ : ByteArray).data.toList).toArray⟩ : ByteArray) = T := by
            rw [eT, hD]
            rfl
          rw [eJ] at hj
          have HJN := Lib.hid hj
          have e5 : ((D.length : Int) == 0) = false := by rw [beq_eq_false_iff_ne]; omega
          have e5b : (D.length == 0) = false := by rw [beq_eq_false_iff_ne]; omega
          have HC := Lib.hid hcl
          clear eT hD hall hlen hz hO HA HN H0 HJ hj eJ hcl
          go_wp2_with (first | (go_at_call 65; refine (HJN.out _ HC.out hg0).mono ?_; rintro e w9 ⟨rfl, hb9⟩))
          go_ret
          exact ⟨rfl, chain hb (chain hbel hb9)⟩
set_option maxRecDepth 8000 in
set_option maxHeartbeats 1000000 in
theorem stepsTextP_any (p c h s : Int) (a : Option Addr) (n cap lo hi : Nat) (L : List Stp) (w : World) (hn : L.length = n) (hle : n ≤ 1048576) (hr : OSt lo hi w a L) :
    Calls Tryd.prog 24 #[.agg #[.int .i64 p, .int .i64 c, .int .i64 h, .int .i64 s], .slice a n cap] w fun e w' => e = .returned (.string ⟨(sttL p c h s L).toArray⟩) ∧ Below w.heap.size w w' := by
  have BV := Blk.new w #[.int .i64 p, .int .i64 c, .int .i64 h, .int .i64 s] 29
  have hb : Below w.heap.size w (w.alloc (.cells #[.int .i64 p, .int .i64 c, .int .i64 h, .int .i64 s] 29)) := (Below.refl _ _).alloc (Nat.le_refl _) _
  obtain ⟨x0, x1, x2, x3, xf, xl⟩ := BV.four
  have hv := fun W => valid_any p c h s W
  unfold sttL
  by_cases g : vB p c h s = true
  · rw [if_pos g]
    rw [g] at hv
    have HV := Lib.hid hv
    clear hv
    have ht := fun (W : World) (q : OSt lo hi W a L) => stepsText_any p c h s a n cap lo hi L W hn hle g q
    obtain ⟨T, hT⟩ : ∃ T : ByteArray, T = ⟨(stsT p s L).toArray⟩ := ⟨_, rfl⟩
    rw [← hT] at ht ⊢
    have HT := Lib.hid ht
    clear ht hT g
    go_enter Tryd.func24, Tryd.ntmps24
    go_wp2_with (first | (go_at_call 31; refine (HV.out _).mono ?_; clear HV; rintro e w1 ⟨rfl, hb1⟩; obtain ⟨x0, x1, x2, x3, xf, xl⟩ := (BV.below hb1).four) | (go_at_call 47; refine (HT.out _ (hr.below (chain hb hb1))).mono ?_; rintro e w2 ⟨rfl, hb2⟩))
    go_ret
    exact ⟨rfl, chain (chain hb hb1) hb2⟩
  · rw [if_neg g]
    replace g : vB p c h s = false := by simpa using g
    rw [g] at hv
    have HV := Lib.hid hv
    clear hv g
    go_enter Tryd.func24, Tryd.ntmps24
    go_wp2_with (first | (go_at_call 31; refine (HV.out _).mono ?_; clear HV; rintro e w1 ⟨rfl, hb1⟩; obtain ⟨x0, x1, x2, x3, xf, xl⟩ := (BV.below hb1).four))
    go_ret
    exact ⟨rfl, chain hb hb1⟩
end Go.Proofs.YthfhiggageejbaaDoor
