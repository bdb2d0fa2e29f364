/- Contract of the model's function that writes several steps as a text. -/
import Derived.Test.YthfhiggageejbaaDoor06i
namespace Go.Proofs.YthfhiggageejbaaDoor
open Go.ChangeShapes Go.WideShapes Go.ChangeAt Go.RowKit
set_option linter.unusedVariables false
set_option linter.unusedSimpArgs false

set_option maxRecDepth 8000 in
set_option maxHeartbeats 4000000 in
theorem specStepsText_any (p c h s : Int) (a : Option Addr) (n cap lo hi : Nat) (L : List Stp) (w : World) (hn : L.length = n) (hle : n ≤ 1048576) (hr : OSt lo hi w a L) :
    Calls Tryd.prog 22 #[.agg #[.int .i64 p, .int .i64 c, .int .i64 h, .int .i64 s], .slice a n cap] w fun e w' => e = .returned (.string ⟨(sttL p c h s L).toArray⟩) ∧ Below w.heap.size w w' := by
  have BV := Blk.new w #[.int .i64 p, .int .i64 c, .int .i64 h, .int .i64 s] 29
  have hb : Below w.heap.size w (w.alloc (.cells #[.int .i64 p, .int .i64 c, .int .i64 h, .int .i64 s] 29)) := (Below.refl _ _).alloc (Nat.le_refl _) _
  obtain ⟨x0, x1, x2, x3, xf, xl⟩ := BV.four
  have hv := fun W => specIsVariant_any p c h s W
  unfold sttL
  by_cases g : vB p c h s = true
  · rw [if_pos g]
    rw [g] at hv
    have HVV := Lib.hid hv
    clear hv
    have hvv := vB_iff.1 g
    by_cases h4 : 4 < n
    · have e4 : decide (4 < (n : Int)) = true := by simp; omega
      have e4b : decide (4 < n) = true := by simp; omega
      have eT : stsT p s L = [] := by unfold stsT; rw [if_pos (by omega)]
      rw [eT]
      clear eT hvv g hr h4
      go_enter Tryd.func22, Tryd.ntmps22
      go_wp2_with (first | (go_at_call 28; refine (HVV.out _).mono ?_; clear HVV; rintro e w1 ⟨rfl, hb1⟩; obtain ⟨x0, x1, x2, x3, xf, xl⟩ := (BV.below hb1).four))
      go_ret
      exact ⟨rfl, chain hb hb1⟩
    · have e4 : decide (4 < (n : Int)) = false := by simp; omega
      have e4b : decide (4 < n) = false := by simp; omega
      obtain ⟨T, hT⟩ : ∃ T : ByteArray, T = ⟨(stsT p s L).toArray⟩ := ⟨_, rfl⟩
      rw [← hT]
      by_cases hz : n = 0
      · have eT : T = ⟨#[45]⟩ := by
          rw [hT, List.eq_nil_of_length_eq_zero (hn.trans hz)]
          rfl
        rw [eT]
        subst hz
        clear eT hT hvv g hr h4 hn
        go_enter Tryd.func22, Tryd.ntmps22
        go_wp2_with (first | (go_at_call 28; refine (HVV.out _).mono ?_; clear HVV; rintro e w1 ⟨rfl, hb1⟩; obtain ⟨x0, x1, x2, x3, xf, xl⟩ := (BV.below hb1).four))
        go_ret
        exact ⟨rfl, chain hb hb1⟩
      · have e0 : ((n : Int) == 0) = false := by rw [beq_eq_false_iff_ne]; omega
        have e0b : (n == 0) = false := by rw [beq_eq_false_iff_ne]; omega
        have hN : ∀ k x, L[k]? = some x → plX p s x = false → T = ⟨#[]⟩ := fun k x hk hx => by rw [hT, stsT_bad hk hx (by omega)]
        have hA : L.all (plX p s) = true → T = ⟨(stJ p L).toArray⟩ := fun q1 => by rw [hT, stsT_good q1 (by omega) (by omega)]
        have HN := Lib.hid hN
        have HA := Lib.hid hA
        have HV := Lib.hid hvv
        have hpl := fun (f t d : Int) (hh : Bool) W => specPlain_any p c h s f t d hh W g
        have HPL := Lib.hid hpl
        have htx := fun (f t d : Int) (hh : Bool) W (g0 : plB p s f t d hh = true) => specStepT_any p c h s f t d hh W g g0
        have HTX := Lib.hid htx
        have z32 : (⟨#[32]⟩ : ByteArray).size ≤ 1 := by decide
        have hn4 : n ≤ 4 := by omega
        have HN4 := Lib.hid hn4
        clear hN hA hvv hpl htx hT g h4 hz hn4
        replace hr := hr.below hb
        go_enter Tryd.func22, Tryd.ntmps22
        go_wp2_with fail
        clear x0 x1 x2 x3 xf xl
        generalize w.alloc (.cells #[.int .i64 p, .int .i64 c, .int .i64 h, .int .i64 s] 29) = v00 at *
        refine (HVV.out _).mono ?_
        rintro e v0 ⟨rfl, hb1⟩
        replace BV := BV.below hb1
        replace hr := hr.below hb1
        replace hb := chain hb hb1
        clear hb1 HVV
        obtain ⟨x0, x1, x2, x3, xf, xl⟩ := BV.four
        go_wp2_with fail
        clear x0 x1 x2 x3 xf xl
        go_loopg [5, 6] n (fun m q i wr => ∃ (k : Nat) (S : ByteArray), k ≤ n ∧ m = n - k ∧ i = .int .i64 k ∧ q = .string S ∧ S.data.toList = stJ p (L.take k) ∧ S.size ≤ 9 * 4 ∧ (L.take k).all (plX p s) = true ∧ Below v0.heap.size v0 wr)
        case atStart => exact ⟨0, ⟨#[]⟩, by omega, by omega, rfl, rfl, rfl, by decide, rfl, Below.refl _ _⟩
        case round =>
          obtain ⟨k, S, hk, hm, rfl, rfl, hS, hSz, hall, hbel⟩ := hrel
          replace BV := BV.below hbel
          by_cases hlt : k < n
          · have hlt' : (k : Int) < (n : Int) := by omega
            obtain ⟨gg, rfl, R⟩ := (hr.below hbel).row (k := k) (by omega)
            obtain ⟨⟨f, t, d, hh⟩, hx⟩ : ∃ x, L[k]? = some x := ⟨L[k], List.getElem?_eq_getElem (by omega)⟩
            have HX := Lib.hid hx
            have HS := Lib.hid hS
            cases hp : plB p s f t d hh with
            | false =>
              have hpl := fun W => HPL.out f t d hh W
              rw [hp] at hpl
              have HP := Lib.hid hpl
              have eT := HN.out k _ hx hp
              have ET := Lib.hid eT
              clear hpl hx hS hall hp eT
              obtain ⟨x0, x1, x2, x3, xf, xl⟩ := BV.four
              obtain ⟨r0, r1, r2, r3⟩ := SRow.four R k _ HX.out
              go_wp2_with fail
              clear x0 x1 x2 x3 xf xl r0 r1 r2 r3
              replace BV := BV.drew
              replace R := R.drew
              replace hbel := hbel.drew
              refine wp_region_held_drew (S := fun w' => w'.cell? ⟨w.heap.size, 0, none⟩ = some (.int .i64 p) ∧ w'.cell? ⟨w.heap.size, 1, none⟩ = some (.int .i64 c) ∧ w'.cell? ⟨w.heap.size, 2, none⟩ = some (.int .i64 h) ∧ w'.cell? ⟨w.heap.size, 3, none⟩ = some (.int .i64 s) ∧ w'.cell? ⟨gg, k * 4, none⟩ = some (.int .i64 f) ∧ w'.cell? ⟨gg, k * 4 + 1, none⟩ = some (.int .i64 t) ∧ w'.cell? ⟨gg, k * 4 + 2, none⟩ = some (.int .i64 d) ∧ w'.cell? ⟨gg, k * 4 + 3, none⟩ = some (.bool hh) ∧ Blk w' w.heap.size #[.int .i64 p, .int .i64 c, .int .i64 h, .int .i64 s] 29 ∧ (SRow w' gg L) ∧ Below v0.heap.size v0 w') (by kernel_rfl) ⟨BV.four.1, BV.four.2.1, BV.four.2.2.1, BV.four.2.2.2.1, (SRow.four R k _ HX.out).1, (SRow.four R k _ HX.out).2.1, (SRow.four R k _ HX.out).2.2.1, (SRow.four R k _ HX.out).2.2.2, BV, R, hbel⟩ (fun hHeld => ?_)
              refine wpAnyH_take (i := 0) (oi := { dst := some 24, op := _, type := _, pos := _, after := _, guard := _ }) (v := ?_) rfl (by kernel_rfl) (by kernel_rfl) (by kernel_rfl) (fun _ _ _ h => h) (Or.inl ⟨by rfl, ?_⟩) (by assumption) ?_
              rotate_left
              · intro w hSw
                (try dsimp only at hSw)
                go_simp
                (try (with_reducible rfl))
              try simp only [Act.put, List.setIfInBounds_toArray, List.set_cons_zero, List.set_cons_succ]
              refine wpAnyH_take (i := 1) (oi := { dst := some 25, op := _, type := _, pos := _, after := _, guard := _ }) (v := ?_) rfl (by kernel_rfl) (by kernel_rfl) (by kernel_rfl) (fun _ _ _ h => h) (Or.inl ⟨by rfl, ?_⟩) (by assumption) ?_
              rotate_left
              · intro w hSw
                (try dsimp only at hSw)
                go_simp
                (try (with_reducible rfl))
              try simp only [Act.put, List.setIfInBounds_toArray, List.set_cons_zero, List.set_cons_succ]
              refine wpAnyH_take (i := 2) (oi := { dst := some 26, op := _, type := _, pos := _, after := _, guard := _ }) (v := ?_) rfl (by kernel_rfl) (by kernel_rfl) (by kernel_rfl) (fun _ _ _ h => h) (Or.inl ⟨by rfl, ?_⟩) (by assumption) ?_
              rotate_left
              · intro w hSw
                (try dsimp only at hSw)
                go_simp
                (try (with_reducible rfl))
              try simp only [Act.put, List.setIfInBounds_toArray, List.set_cons_zero, List.set_cons_succ]
              refine wpAnyH_take (i := 3) (oi := { dst := some 27, op := _, type := _, pos := _, after := _, guard := _ }) (v := ?_) rfl (by kernel_rfl) (by kernel_rfl) (by kernel_rfl) (fun _ _ _ h => h) (Or.inl ⟨by rfl, ?_⟩) (by assumption) ?_
              rotate_left
              · intro w hSw
                (try dsimp only at hSw)
                go_simp
                (try (with_reducible rfl))
              try simp only [Act.put, List.setIfInBounds_toArray, List.set_cons_zero, List.set_cons_succ]
              refine wpAnyH_take (i := 4) (oi := { dst := some 28, op := _, type := _, pos := _, after := _, guard := _ }) (v := ?_) rfl (by kernel_rfl) (by kernel_rfl) (by kernel_rfl) (fun _ _ _ h => h) (Or.inl ⟨by rfl, ?_⟩) (by assumption) ?_
              rotate_left
              · intro w hSw
                (try dsimp only at hSw)
                go_simp
                (try (with_reducible rfl))
              try simp only [Act.put, List.setIfInBounds_toArray, List.set_cons_zero, List.set_cons_succ]
              refine wpAnyH_ready (rs := [5]) (by kernel_rfl) (by simp) ?_
              refine AllReadyH.cons (o := { dst := some 29, op := _, type := _, pos := _, after := _, guard := _ }) rfl (fun K hK => ?_) AllReadyH.nil
              go_simp
              -- call
              have BV := hHeld.2.2.2.2.2.2.2.2.1
              have R := hHeld.2.2.2.2.2.2.2.2.2.1
              have hbel := hHeld.2.2.2.2.2.2.2.2.2.2
              clear hHeld
              refine (HP.out _).mono ?_
              rintro e wq1 ⟨rfl, hq1⟩
              replace BV := BV.below hq1
              replace R := R.below hq1
              replace hbel := chain hbel hq1
              (try go_wp2_with fail)
              refine hK.out _ _ ⟨BV.four.1, BV.four.2.1, BV.four.2.2.1, BV.four.2.2.2.1, (SRow.four R k _ HX.out).1, (SRow.four R k _ HX.out).2.1, (SRow.four R k _ HX.out).2.2.1, (SRow.four R k _ HX.out).2.2.2, BV, R, hbel⟩ (fun hHeld => ?_)
              clear hK K
              try simp only [Act.put, List.setIfInBounds_toArray, List.set_cons_zero, List.set_cons_succ]
              refine wpAnyH_take (i := 6) (oi := { dst := some 30, op := _, type := _, pos := _, after := _, guard := _ }) (v := ?_) rfl (by kernel_rfl) (by kernel_rfl) (by kernel_rfl) (fun _ _ _ h => h) (Or.inl ⟨by rfl, ?_⟩) (by assumption) ?_
              rotate_left
              · intro w hSw
                (try dsimp only at hSw)
                go_simp
                (try (with_reducible rfl))
              try simp only [Act.put, List.setIfInBounds_toArray, List.set_cons_zero, List.set_cons_succ]
              refine wpAnyH_done (by kernel_rfl) ?_ _
              have BV := hHeld.2.2.2.2.2.2.2.2.1
              have R := hHeld.2.2.2.2.2.2.2.2.2.1
              have hbel := hHeld.2.2.2.2.2.2.2.2.2.2
              clear hHeld
              go_wp2
              go_ret
              exact ⟨by rw [ET.out]; rfl, chain hb hbel⟩
            | true =>
              have hpl := fun W => HPL.out f t d hh W
              rw [hp] at hpl
              have HP := Lib.hid hpl
              have htx := fun W => HTX.out f t d hh W hp
              have hlen := (stT_len (by have := HV.out; omega) (by have := HV.out; omega) hp).1
              obtain ⟨U, hU, hUz⟩ : ∃ U : ByteArray, U = ⟨(stT p f t d hh).toArray⟩ ∧ U.size ≤ 8 := ⟨_, rfl, by simpa [ByteArray.size] using hlen⟩
              rw [← hU] at htx
              have HT := Lib.hid htx
              have HU := Lib.hid hU
              have hal2 : (L.take (k + 1)).all (plX p s) = true := by
                rw [List.take_add_one, hx, List.all_append, hall]
                simp [plX, hp]
              have HAL2 := Lib.hid hal2
              clear hpl htx hU hx hS hall hp hal2 hlen
              obtain ⟨x0, x1, x2, x3, xf, xl⟩ := BV.four
              obtain ⟨r0, r1, r2, r3⟩ := SRow.four R k _ HX.out
              go_wp2_with fail
              clear x0 x1 x2 x3 xf xl r0 r1 r2 r3
              replace BV := BV.drew
              replace R := R.drew
              replace hbel := hbel.drew
              refine wp_region_held_drew (S := fun w' => w'.cell? ⟨w.heap.size, 0, none⟩ = some (.int .i64 p) ∧ w'.cell? ⟨w.heap.size, 1, none⟩ = some (.int .i64 c) ∧ w'.cell? ⟨w.heap.size, 2, none⟩ = some (.int .i64 h) ∧ w'.cell? ⟨w.heap.size, 3, none⟩ = some (.int .i64 s) ∧ w'.cell? ⟨gg, k * 4, none⟩ = some (.int .i64 f) ∧ w'.cell? ⟨gg, k * 4 + 1, none⟩ = some (.int .i64 t) ∧ w'.cell? ⟨gg, k * 4 + 2, none⟩ = some (.int .i64 d) ∧ w'.cell? ⟨gg, k * 4 + 3, none⟩ = some (.bool hh) ∧ Blk w' w.heap.size #[.int .i64 p, .int .i64 c, .int .i64 h, .int .i64 s] 29 ∧ (SRow w' gg L) ∧ Below v0.heap.size v0 w') (by kernel_rfl) ⟨BV.four.1, BV.four.2.1, BV.four.2.2.1, BV.four.2.2.2.1, (SRow.four R k _ HX.out).1, (SRow.four R k _ HX.out).2.1, (SRow.four R k _ HX.out).2.2.1, (SRow.four R k _ HX.out).2.2.2, BV, R, hbel⟩ (fun hHeld => ?_)
              refine wpAnyH_take (i := 0) (oi := { dst := some 24, op := _, type := _, pos := _, after := _, guard := _ }) (v := ?_) rfl (by kernel_rfl) (by kernel_rfl) (by kernel_rfl) (fun _ _ _ h => h) (Or.inl ⟨by rfl, ?_⟩) (by assumption) ?_
              rotate_left
              · intro w hSw
                (try dsimp only at hSw)
                go_simp
                (try (with_reducible rfl))
              try simp only [Act.put, List.setIfInBounds_toArray, List.set_cons_zero, List.set_cons_succ]
              refine wpAnyH_take (i := 1) (oi := { dst := some 25, op := _, type := _, pos := _, after := _, guard := _ }) (v := ?_) rfl (by kernel_rfl) (by kernel_rfl) (by kernel_rfl) (fun _ _ _ h => h) (Or.inl ⟨by rfl, ?_⟩) (by assumption) ?_
              rotate_left
              · intro w hSw
                (try dsimp only at hSw)
                go_simp
                (try (with_reducible rfl))
              try simp only [Act.put, List.setIfInBounds_toArray, List.set_cons_zero, List.set_cons_succ]
              refine wpAnyH_take (i := 2) (oi := { dst := some 26, op := _, type := _, pos := _, after := _, guard := _ }) (v := ?_) rfl (by kernel_rfl) (by kernel_rfl) (by kernel_rfl) (fun _ _ _ h => h) (Or.inl ⟨by rfl, ?_⟩) (by assumption) ?_
              rotate_left
              · intro w hSw
                (try dsimp only at hSw)
                go_simp
                (try (with_reducible rfl))
              try simp only [Act.put, List.setIfInBounds_toArray, List.set_cons_zero, List.set_cons_succ]
              refine wpAnyH_take (i := 3) (oi := { dst := some 27, op := _, type := _, pos := _, after := _, guard := _ }) (v := ?_) rfl (by kernel_rfl) (by kernel_rfl) (by kernel_rfl) (fun _ _ _ h => h) (Or.inl ⟨by rfl, ?_⟩) (by assumption) ?_
              rotate_left
              · intro w hSw
                (try dsimp only at hSw)
                go_simp
                (try (with_reducible rfl))
              try simp only [Act.put, List.setIfInBounds_toArray, List.set_cons_zero, List.set_cons_succ]
              refine wpAnyH_take (i := 4) (oi := { dst := some 28, op := _, type := _, pos := _, after := _, guard := _ }) (v := ?_) rfl (by kernel_rfl) (by kernel_rfl) (by kernel_rfl) (fun _ _ _ h => h) (Or.inl ⟨by rfl, ?_⟩) (by assumption) ?_
              rotate_left
              · intro w hSw
                (try dsimp only at hSw)
                go_simp
                (try (with_reducible rfl))
              try simp only [Act.put, List.setIfInBounds_toArray, List.set_cons_zero, List.set_cons_succ]
              refine wpAnyH_ready (rs := [5]) (by kernel_rfl) (by simp) ?_
              refine AllReadyH.cons (o := { dst := some 29, op := _, type := _, pos := _, after := _, guard := _ }) rfl (fun K hK => ?_) AllReadyH.nil
              go_simp
              -- call
              have BV := hHeld.2.2.2.2.2.2.2.2.1
              have R := hHeld.2.2.2.2.2.2.2.2.2.1
              have hbel := hHeld.2.2.2.2.2.2.2.2.2.2
              clear hHeld
              refine (HP.out _).mono ?_
              rintro e wq1 ⟨rfl, hq1⟩
              replace BV := BV.below hq1
              replace R := R.below hq1
              replace hbel := chain hbel hq1
              (try go_wp2_with fail)
              refine hK.out _ _ ⟨BV.four.1, BV.four.2.1, BV.four.2.2.1, BV.four.2.2.2.1, (SRow.four R k _ HX.out).1, (SRow.four R k _ HX.out).2.1, (SRow.four R k _ HX.out).2.2.1, (SRow.four R k _ HX.out).2.2.2, BV, R, hbel⟩ (fun hHeld => ?_)
              clear hK K
              try simp only [Act.put, List.setIfInBounds_toArray, List.set_cons_zero, List.set_cons_succ]
              refine wpAnyH_take (i := 6) (oi := { dst := some 30, op := _, type := _, pos := _, after := _, guard := _ }) (v := ?_) rfl (by kernel_rfl) (by kernel_rfl) (by kernel_rfl) (fun _ _ _ h => h) (Or.inl ⟨by rfl, ?_⟩) (by assumption) ?_
              rotate_left
              · intro w hSw
                (try dsimp only at hSw)
                go_simp
                (try (with_reducible rfl))
              try simp only [Act.put, List.setIfInBounds_toArray, List.set_cons_zero, List.set_cons_succ]
              refine wpAnyH_done (by kernel_rfl) ?_ _
              have BV := hHeld.2.2.2.2.2.2.2.2.1
              have R := hHeld.2.2.2.2.2.2.2.2.2.1
              have hbel := hHeld.2.2.2.2.2.2.2.2.2.2
              clear hHeld
              by_cases hk0 : k = 0
              · have f0 : decide (0 < (k : Int)) = false := by simp; omega
                have f0b : decide (0 < k) = false := by simp; omega
                have HK0 := Lib.hid hk0
                clear hk0
                obtain ⟨S2, eS2, zS2, cS2⟩ := cat_run hSz hUz (by omega)
                have hJ2 : S2.data.toList = stJ p (L.take (k + 1)) := by
                  rw [List.take_add_one, HX.out]
                  show S2.data.toList = stJ p (L.take k ++ [(f, t, d, hh)])
                  rw [stJ_snoc, eS2]
                  rw [if_pos (by rw [HK0.out]; simp)]
                  simp [ByteArray.data_append, HU.out, HS.out]
                  rw [HK0.out]; rfl
                have hJs : S2.size ≤ 9 * 4 := by
                  have := stJ_len (p := p) (s := s) (by have := HV.out; omega) (by have := HV.out; omega) (L.take (k + 1)) HAL2.out
                  rw [Lib.size_eq, hJ2]
                  rw [List.length_take] at this
                  have := HN4.out
                  omega
                have HJ2 := Lib.hid hJ2
                clear hJ2 eS2 zS2
                obtain ⟨x0, x1, x2, x3, xf, xl⟩ := BV.four
                obtain ⟨r0, r1, r2, r3⟩ := SRow.four R k _ HX.out
                go_wp2_with fail
                clear x0 x1 x2 x3 xf xl r0 r1 r2 r3
                replace BV := BV.drew
                replace R := R.drew
                replace hbel := hbel.drew
                refine wp_region_held_drew (S := fun w' => w'.cell? ⟨w.heap.size, 0, none⟩ = some (.int .i64 p) ∧ w'.cell? ⟨w.heap.size, 1, none⟩ = some (.int .i64 c) ∧ w'.cell? ⟨w.heap.size, 2, none⟩ = some (.int .i64 h) ∧ w'.cell? ⟨w.heap.size, 3, none⟩ = some (.int .i64 s) ∧ w'.cell? ⟨gg, k * 4, none⟩ = some (.int .i64 f) ∧ w'.cell? ⟨gg, k * 4 + 1, none⟩ = some (.int .i64 t) ∧ w'.cell? ⟨gg, k * 4 + 2, none⟩ = some (.int .i64 d) ∧ w'.cell? ⟨gg, k * 4 + 3, none⟩ = some (.bool hh) ∧ Blk w' w.heap.size #[.int .i64 p, .int .i64 c, .int .i64 h, .int .i64 s] 29 ∧ (SRow w' gg L) ∧ Below v0.heap.size v0 w') (by kernel_rfl) ⟨BV.four.1, BV.four.2.1, BV.four.2.2.1, BV.four.2.2.2.1, (SRow.four R k _ HX.out).1, (SRow.four R k _ HX.out).2.1, (SRow.four R k _ HX.out).2.2.1, (SRow.four R k _ HX.out).2.2.2, BV, R, hbel⟩ (fun hHeld => ?_)
                refine wpAnyH_take (i := 0) (oi := { dst := some 35, op := _, type := _, pos := _, after := _, guard := _ }) (v := ?_) rfl (by kernel_rfl) (by kernel_rfl) (by kernel_rfl) (fun _ _ _ h => h) (Or.inl ⟨by rfl, ?_⟩) (by assumption) ?_
                rotate_left
                · intro w hSw
                  (try dsimp only at hSw)
                  go_simp
                  (try (with_reducible rfl))
                try simp only [Act.put, List.setIfInBounds_toArray, List.set_cons_zero, List.set_cons_succ]
                refine wpAnyH_take (i := 1) (oi := { dst := some 36, op := _, type := _, pos := _, after := _, guard := _ }) (v := ?_) rfl (by kernel_rfl) (by kernel_rfl) (by kernel_rfl) (fun _ _ _ h => h) (Or.inl ⟨by rfl, ?_⟩) (by assumption) ?_
                rotate_left
                · intro w hSw
                  (try dsimp only at hSw)
                  go_simp
                  (try (with_reducible rfl))
                try simp only [Act.put, List.setIfInBounds_toArray, List.set_cons_zero, List.set_cons_succ]
                refine wpAnyH_take (i := 2) (oi := { dst := some 37, op := _, type := _, pos := _, after := _, guard := _ }) (v := ?_) rfl (by kernel_rfl) (by kernel_rfl) (by kernel_rfl) (fun _ _ _ h => h) (Or.inl ⟨by rfl, ?_⟩) (by assumption) ?_
                rotate_left
                · intro w hSw
                  (try dsimp only at hSw)
                  go_simp
                  (try (with_reducible rfl))
                try simp only [Act.put, List.setIfInBounds_toArray, List.set_cons_zero, List.set_cons_succ]
                refine wpAnyH_take (i := 3) (oi := { dst := some 38, op := _, type := _, pos := _, after := _, guard := _ }) (v := ?_) rfl (by kernel_rfl) (by kernel_rfl) (by kernel_rfl) (fun _ _ _ h => h) (Or.inl ⟨by rfl, ?_⟩) (by assumption) ?_
                rotate_left
                · intro w hSw
                  (try dsimp only at hSw)
                  go_simp
                  (try (with_reducible rfl))
                try simp only [Act.put, List.setIfInBounds_toArray, List.set_cons_zero, List.set_cons_succ]
                refine wpAnyH_take (i := 4) (oi := { dst := some 39, op := _, type := _, pos := _, after := _, guard := _ }) (v := ?_) rfl (by kernel_rfl) (by kernel_rfl) (by kernel_rfl) (fun _ _ _ h => h) (Or.inl ⟨by rfl, ?_⟩) (by assumption) ?_
                rotate_left
                · intro w hSw
                  (try dsimp only at hSw)
                  go_simp
                  (try (with_reducible rfl))
                try simp only [Act.put, List.setIfInBounds_toArray, List.set_cons_zero, List.set_cons_succ]
                refine wpAnyH_take (i := 5) (oi := { dst := some 40, op := _, type := _, pos := _, after := _, guard := _ }) (v := ?_) rfl (by kernel_rfl) (by kernel_rfl) (by kernel_rfl) (fun _ _ _ h => h) (Or.inl ⟨by rfl, ?_⟩) (by assumption) ?_
                rotate_left
                · intro w hSw
                  (try dsimp only at hSw)
                  go_simp
                  (try (with_reducible rfl))
                try simp only [Act.put, List.setIfInBounds_toArray, List.set_cons_zero, List.set_cons_succ]
                refine wpAnyH_ready (rs := [6]) (by kernel_rfl) (by simp) ?_
                refine AllReadyH.cons (o := { dst := some 41, op := _, type := _, pos := _, after := _, guard := _ }) rfl (fun K hK => ?_) AllReadyH.nil
                go_simp
                -- call
                have BV := hHeld.2.2.2.2.2.2.2.2.1
                have R := hHeld.2.2.2.2.2.2.2.2.2.1
                have hbel := hHeld.2.2.2.2.2.2.2.2.2.2
                clear hHeld
                refine (HT.out _).mono ?_
                rintro e wq1 ⟨rfl, hq1⟩
                replace BV := BV.below hq1
                replace R := R.below hq1
                replace hbel := chain hbel hq1
                (try go_wp2_with fail)
                refine hK.out _ _ ⟨BV.four.1, BV.four.2.1, BV.four.2.2.1, BV.four.2.2.2.1, (SRow.four R k _ HX.out).1, (SRow.four R k _ HX.out).2.1, (SRow.four R k _ HX.out).2.2.1, (SRow.four R k _ HX.out).2.2.2, BV, R, hbel⟩ (fun hHeld => ?_)
                clear hK K
                try simp only [Act.put, List.setIfInBounds_toArray, List.set_cons_zero, List.set_cons_succ]
                refine wpAnyH_take (i := 7) (oi := { dst := some 42, op := _, type := _, pos := _, after := _, guard := _ }) (v := ?_) rfl (by kernel_rfl) (by kernel_rfl) (by kernel_rfl) (fun _ _ _ h => h) (Or.inl ⟨by rfl, ?_⟩) (by assumption) ?_
                rotate_left
                · intro w hSw
                  (try dsimp only at hSw)
                  go_simp
                  (try (with_reducible rfl))
                try simp only [Act.put, List.setIfInBounds_toArray, List.set_cons_zero, List.set_cons_succ]
                refine wpAnyH_take (i := 8) (oi := { dst := some 5, op := _, type := _, pos := _, after := _, guard := _ }) (v := ?_) rfl (by kernel_rfl) (by kernel_rfl) (by kernel_rfl) (fun _ _ _ h => h) (Or.inl ⟨by rfl, ?_⟩) (by assumption) ?_
                rotate_left
                · intro w hSw
                  (try dsimp only at hSw)
                  go_simp
                  (try (with_reducible rfl))
                try simp only [Act.put, List.setIfInBounds_toArray, List.set_cons_zero, List.set_cons_succ]
                refine wpAnyH_done (by kernel_rfl) ?_ _
                have BV := hHeld.2.2.2.2.2.2.2.2.1
                have R := hHeld.2.2.2.2.2.2.2.2.2.1
                have hbel := hHeld.2.2.2.2.2.2.2.2.2.2
                clear hHeld
                obtain ⟨x0, x1, x2, x3, xf, xl⟩ := BV.four
                go_wp2
                go_roundg (n - (k + 1))
                case measure => omega
                case rel => exact ⟨k + 1, S2, by omega, rfl, by go_num, rfl, HJ2.out, hJs, HAL2.out, hbel⟩
              · have f0 : decide (0 < (k : Int)) = true := by simp; omega
                have f0b : decide (0 < k) = true := by simp; omega
                obtain ⟨S1, eS1, zS1, cS1⟩ := cat_run hSz z32 (by omega)
                obtain ⟨S2, eS2, zS2, cS2⟩ := cat_run zS1 hUz (by omega)
                have hJ2 : S2.data.toList = stJ p (L.take (k + 1)) := by
                  rw [List.take_add_one, HX.out]
                  show S2.data.toList = stJ p (L.take k ++ [(f, t, d, hh)])
                  rw [stJ_snoc, eS2, eS1]
                  rw [if_neg (by intro q; have := congrArg List.length q; rw [List.length_take] at this; simp only [List.length_nil] at this; omega)]
                  simp [ByteArray.data_append, HU.out, HS.out]
                  rfl
                have hJs : S2.size ≤ 9 * 4 := by
                  have := stJ_len (p := p) (s := s) (by have := HV.out; omega) (by have := HV.out; omega) (L.take (k + 1)) HAL2.out
                  rw [Lib.size_eq, hJ2]
                  rw [List.length_take] at this
                  have := HN4.out
                  omega
                have HJ2 := Lib.hid hJ2
                clear hJ2 eS2 zS2 eS1 zS1
                obtain ⟨x0, x1, x2, x3, xf, xl⟩ := BV.four
                obtain ⟨r0, r1, r2, r3⟩ := SRow.four R k _ HX.out
                go_wp2_with fail
                clear x0 x1 x2 x3 xf xl r0 r1 r2 r3
                replace BV := BV.drew
                replace R := R.drew
                replace hbel := hbel.drew
                refine wp_region_held_drew (S := fun w' => w'.cell? ⟨w.heap.size, 0, none⟩ = some (.int .i64 p) ∧ w'.cell? ⟨w.heap.size, 1, none⟩ = some (.int .i64 c) ∧ w'.cell? ⟨w.heap.size, 2, none⟩ = some (.int .i64 h) ∧ w'.cell? ⟨w.heap.size, 3, none⟩ = some (.int .i64 s) ∧ w'.cell? ⟨gg, k * 4, none⟩ = some (.int .i64 f) ∧ w'.cell? ⟨gg, k * 4 + 1, none⟩ = some (.int .i64 t) ∧ w'.cell? ⟨gg, k * 4 + 2, none⟩ = some (.int .i64 d) ∧ w'.cell? ⟨gg, k * 4 + 3, none⟩ = some (.bool hh) ∧ Blk w' w.heap.size #[.int .i64 p, .int .i64 c, .int .i64 h, .int .i64 s] 29 ∧ (SRow w' gg L) ∧ Below v0.heap.size v0 w') (by kernel_rfl) ⟨BV.four.1, BV.four.2.1, BV.four.2.2.1, BV.four.2.2.2.1, (SRow.four R k _ HX.out).1, (SRow.four R k _ HX.out).2.1, (SRow.four R k _ HX.out).2.2.1, (SRow.four R k _ HX.out).2.2.2, BV, R, hbel⟩ (fun hHeld => ?_)
                refine wpAnyH_take (i := 0) (oi := { dst := some 35, op := _, type := _, pos := _, after := _, guard := _ }) (v := ?_) rfl (by kernel_rfl) (by kernel_rfl) (by kernel_rfl) (fun _ _ _ h => h) (Or.inl ⟨by rfl, ?_⟩) (by assumption) ?_
                rotate_left
                · intro w hSw
                  (try dsimp only at hSw)
                  go_simp
                  (try (with_reducible rfl))
                try simp only [Act.put, List.setIfInBounds_toArray, List.set_cons_zero, List.set_cons_succ]
                refine wpAnyH_take (i := 1) (oi := { dst := some 36, op := _, type := _, pos := _, after := _, guard := _ }) (v := ?_) rfl (by kernel_rfl) (by kernel_rfl) (by kernel_rfl) (fun _ _ _ h => h) (Or.inl ⟨by rfl, ?_⟩) (by assumption) ?_
                rotate_left
                · intro w hSw
                  (try dsimp only at hSw)
                  go_simp
                  (try (with_reducible rfl))
                try simp only [Act.put, List.setIfInBounds_toArray, List.set_cons_zero, List.set_cons_succ]
                refine wpAnyH_take (i := 2) (oi := { dst := some 37, op := _, type := _, pos := _, after := _, guard := _ }) (v := ?_) rfl (by kernel_rfl) (by kernel_rfl) (by kernel_rfl) (fun _ _ _ h => h) (Or.inl ⟨by rfl, ?_⟩) (by assumption) ?_
                rotate_left
                · intro w hSw
                  (try dsimp only at hSw)
                  go_simp
                  (try (with_reducible rfl))
                try simp only [Act.put, List.setIfInBounds_toArray, List.set_cons_zero, List.set_cons_succ]
                refine wpAnyH_take (i := 3) (oi := { dst := some 38, op := _, type := _, pos := _, after := _, guard := _ }) (v := ?_) rfl (by kernel_rfl) (by kernel_rfl) (by kernel_rfl) (fun _ _ _ h => h) (Or.inl ⟨by rfl, ?_⟩) (by assumption) ?_
                rotate_left
                · intro w hSw
                  (try dsimp only at hSw)
                  go_simp
                  (try (with_reducible rfl))
                try simp only [Act.put, List.setIfInBounds_toArray, List.set_cons_zero, List.set_cons_succ]
                refine wpAnyH_take (i := 4) (oi := { dst := some 39, op := _, type := _, pos := _, after := _, guard := _ }) (v := ?_) rfl (by kernel_rfl) (by kernel_rfl) (by kernel_rfl) (fun _ _ _ h => h) (Or.inl ⟨by rfl, ?_⟩) (by assumption) ?_
                rotate_left
                · intro w hSw
                  (try dsimp only at hSw)
                  go_simp
                  (try (with_reducible rfl))
                try simp only [Act.put, List.setIfInBounds_toArray, List.set_cons_zero, List.set_cons_succ]
                refine wpAnyH_take (i := 5) (oi := { dst := some 40, op := _, type := _, pos := _, after := _, guard := _ }) (v := ?_) rfl (by kernel_rfl) (by kernel_rfl) (by kernel_rfl) (fun _ _ _ h => h) (Or.inl ⟨by rfl, ?_⟩) (by assumption) ?_
                rotate_left
                · intro w hSw
                  (try dsimp only at hSw)
                  go_simp
                  (try (with_reducible rfl))
                try simp only [Act.put, List.setIfInBounds_toArray, List.set_cons_zero, List.set_cons_succ]
                refine wpAnyH_ready (rs := [6]) (by kernel_rfl) (by simp) ?_
                refine AllReadyH.cons (o := { dst := some 41, op := _, type := _, pos := _, after := _, guard := _ }) rfl (fun K hK => ?_) AllReadyH.nil
                go_simp
                -- call
                have BV := hHeld.2.2.2.2.2.2.2.2.1
                have R := hHeld.2.2.2.2.2.2.2.2.2.1
                have hbel := hHeld.2.2.2.2.2.2.2.2.2.2
                clear hHeld
                refine (HT.out _).mono ?_
                rintro e wq1 ⟨rfl, hq1⟩
                replace BV := BV.below hq1
                replace R := R.below hq1
                replace hbel := chain hbel hq1
                (try go_wp2_with fail)
                refine hK.out _ _ ⟨BV.four.1, BV.four.2.1, BV.four.2.2.1, BV.four.2.2.2.1, (SRow.four R k _ HX.out).1, (SRow.four R k _ HX.out).2.1, (SRow.four R k _ HX.out).2.2.1, (SRow.four R k _ HX.out).2.2.2, BV, R, hbel⟩ (fun hHeld => ?_)
                clear hK K
                try simp only [Act.put, List.setIfInBounds_toArray, List.set_cons_zero, List.set_cons_succ]
                refine wpAnyH_take (i := 7) (oi := { dst := some 42, op := _, type := _, pos := _, after := _, guard := _ }) (v := ?_) rfl (by kernel_rfl) (by kernel_rfl) (by kernel_rfl) (fun _ _ _ h => h) (Or.inl ⟨by rfl, ?_⟩) (by assumption) ?_
                rotate_left
                · intro w hSw
                  (try dsimp only at hSw)
                  go_simp
                  (try (with_reducible rfl))
                try simp only [Act.put, List.setIfInBounds_toArray, List.set_cons_zero, List.set_cons_succ]
                refine wpAnyH_take (i := 8) (oi := { dst := some 5, op := _, type := _, pos := _, after := _, guard := _ }) (v := ?_) rfl (by kernel_rfl) (by kernel_rfl) (by kernel_rfl) (fun _ _ _ h => h) (Or.inl ⟨by rfl, ?_⟩) (by assumption) ?_
                rotate_left
                · intro w hSw
                  (try dsimp only at hSw)
                  go_simp
                  (try (with_reducible rfl))
                try simp only [Act.put, List.setIfInBounds_toArray, List.set_cons_zero, List.set_cons_succ]
                refine wpAnyH_done (by kernel_rfl) ?_ _
                have BV := hHeld.2.2.2.2.2.2.2.2.1
                have R := hHeld.2.2.2.2.2.2.2.2.2.1
                have hbel := hHeld.2.2.2.2.2.2.2.2.2.2
                clear hHeld
                obtain ⟨x0, x1, x2, x3, xf, xl⟩ := BV.four
                go_wp2
                go_roundg (n - (k + 1))
                case measure => omega
                case rel => exact ⟨k + 1, S2, by omega, rfl, by go_num, rfl, HJ2.out, hJs, HAL2.out, hbel⟩
          · obtain rfl : k = n := by omega
            rw [List.take_of_length_le (by omega)] at hS hall
            have eT := HA.out hall
            have eS : T = S := by
              rw [eT]
              apply ByteArray.ext
              apply Array.toList_inj.1
              exact hS.symm
            have ES := Lib.hid eS
            clear eS eT hS hall HA HN
            go_wp2
            go_ret
            exact ⟨by rw [ES.out]; rfl, chain hb hbel⟩
  · rw [if_neg g]
    replace g : vB p c h s = false := by simpa using g
    rw [g] at hv
    have HVV := Lib.hid hv
    clear hv g
    go_enter Tryd.func22, Tryd.ntmps22
    go_wp2_with (first | (go_at_call 28; refine (HVV.out _).mono ?_; clear HVV; rintro e w1 ⟨rfl, hb1⟩; obtain ⟨x0, x1, x2, x3, xf, xl⟩ := (BV.below hb1).four))
    go_ret
    exact ⟨rfl, chain hb hb1⟩
end Go.Proofs.YthfhiggageejbaaDoor
