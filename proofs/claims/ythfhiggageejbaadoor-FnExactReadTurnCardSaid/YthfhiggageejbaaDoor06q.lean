/- Contracts of the program's functions that read several steps from a text. -/
import Derived.Test.YthfhiggageejbaaDoor06n
import Derived.Test.YthfhiggageejbaaDoorM06b
import Derived.Test.YthfhiggageejbaaDoorStp
namespace Go.Proofs.YthfhiggageejbaaDoor
open Go.ChangeShapes Go.WideShapes Go.ChangeAt Go.RowKit
set_option linter.unusedVariables false
set_option linter.unusedSimpArgs false

theorem words_leN (y : Nat) : ∀ (l : List UInt8) (x : List UInt8), x ∈ splitL y l → x.length ≤ l.length
  | [], x, h => by simp [splitL] at h; simp [h]
  | b :: r, x, h => by
    rw [splitL] at h
    split at h
    · rcases List.mem_cons.1 h with rfl | h
      · simp
      · have := words_leN y r x h
        simp; omega
    · cases hs : splitL y r with
      | nil => exact absurd hs (splitL_ne y r)
      | cons p q =>
        rw [hs] at h
        rcases List.mem_cons.1 h with rfl | h
        · have := words_leN y r p (by rw [hs]; simp)
          simp; omega
        · have := words_leN y r x (by rw [hs]; simp [h])
          simp; omega
theorem splitN_named (t : ByteArray) (ht : t.size ≤ 1048576) : ∃ PB : List ByteArray, (4 < PB.length ↔ 4 < (splitL 32 t.data.toList).length) ∧ (PB.length ≤ 4 → PB.map (·.data.toList) = splitL 32 t.data.toList) ∧ PB.length ≤ 5 ∧ 0 < PB.length ∧
    ∀ w, IntCell w 0 → Calls Tryd.prog 56 #[.string t, .string ⟨#[32]⟩, .int .i64 5] w fun e w' => ∃ cap, e = .returned (.slice (some ⟨w.heap.size, 0, none⟩) PB.length cap) ∧ Below w.heap.size w w' ∧ w.heap.size < w'.heap.size ∧ ∀ (j : Nat) x, PB[j]? = some x → w'.cell? ⟨w.heap.size, j, none⟩ = some (.string x) := by
  have hK := splitK_split 32 (min 5 (t.size + 1) - 1) t.data.toList
  have hd := Lib.splitB_data (⟨#[32]⟩ : ByteArray) 0 (min 5 (t.size + 1) - 1) t
  have hd : (Lib.splitB (⟨#[32]⟩ : ByteArray) 0 (min 5 (t.size + 1) - 1) t).map (·.data.toList) = Lib.splitK [32] 0 (min 5 (t.size + 1) - 1) t.data.toList := hd
  have hK : (Lib.splitK [32] 0 (min 5 (t.size + 1) - 1) t.data.toList).length = min (min 5 (t.size + 1) - 1 + 1) (splitL 32 t.data.toList).length ∧ ((splitL 32 t.data.toList).length ≤ min 5 (t.size + 1) - 1 + 1 → Lib.splitK [32] 0 (min 5 (t.size + 1) - 1) t.data.toList = splitL 32 t.data.toList) := hK
  have hl := split_length 32 t.data.toList
  have hne : 0 < (splitL 32 t.data.toList).length := List.length_pos_iff.2 (splitL_ne _ _)
  have hsz := Lib.size_eq t
  have hlen : (Lib.splitB (⟨#[32]⟩ : ByteArray) 0 (min 5 (t.size + 1) - 1) t).length = min (min 5 (t.size + 1) - 1 + 1) (splitL 32 t.data.toList).length := by
    rw [← hK.1, ← hd, List.length_map]
  refine ⟨Lib.splitB ⟨#[32]⟩ 0 (min 5 (t.size + 1) - 1) t, by rw [hlen]; omega, fun q => ?_, by rw [hlen]; omega, by rw [hlen]; omega, ?_⟩
  · rw [hlen] at q
    rw [hd, hK.2 (by omega)]
  · rintro w ⟨m, hm⟩
    have hc := Tryd.strings_SplitN t ⟨#[32]⟩ 5 m w (by omega) hm (by decide) (by decide) (by decide)
    refine hc.mono ?_
    rintro e w' ⟨rfl, rfl⟩
    refine ⟨_, rfl, (Below.refl _ _).alloc (Nat.le_refl _) _, by simp, fun j x hj => ?_⟩
    rw [(Blk.new w _ _).cell j]
    have hj2 := (List.getElem?_eq_some_iff.1 hj).1
    unfold Lib.cellsOf
    rw [List.getElem?_toArray, List.getElem?_append_left (by simpa using hj2), List.getElem?_map, hj]
    rfl
/-- Steps are handed back, or none; and whether. -/
def StepsGotB (r : Option (List Stp)) (w : World) (e : Ending) (w' : World) : Prop :=
  ∃ a k, e = .returned (.tuple #[.slice a (r.getD []).length k, .bool r.isSome]) ∧ OSt w.heap.size w'.heap.size w' a (r.getD []) ∧ Below w.heap.size w w'
set_option maxRecDepth 8000 in
set_option maxHeartbeats 2000000 in
theorem readSteps_any (p c h s : Int) (t : ByteArray) (w : World) (g : vB p c h s = true) (ht : t.size ≤ 1048576) (hM : IntCell w 0) (hE : ErrCell w 2) :
    Calls Tryd.prog 34 #[.agg #[.int .i64 p, .int .i64 c, .int .i64 h, .int .i64 s], .string t] w (StepsGotB (rds p s t.data.toList) w) := by
  have BV := Blk.new w #[.int .i64 p, .int .i64 c, .int .i64 h, .int .i64 s] 29
  have hb : Below w.heap.size w (w.alloc (.cells #[.int .i64 p, .int .i64 c, .int .i64 h, .int .i64 s] 29)) := (Below.refl _ _).alloc (Nat.le_refl _) _
  unfold rds
  by_cases hd : t.data.toList = [45]
  · rw [if_pos hd]
    have qT : (t.toList == [45]) = true := by rw [beq_iff_eq, ByteArray.toList_eq]; exact hd
    clear hd
    go_enter Tryd.func34, Tryd.ntmps34
    go_wp2
    go_ret2
    exact ⟨none, 0, rfl, .inl ⟨rfl, rfl⟩, hb⟩
  · rw [if_neg hd]
    have qT : (t.toList == [45]) = false := by rw [beq_eq_false_iff_ne, ByteArray.toList_eq]; exact hd
    obtain ⟨PB, h4, hW, h5, h0, hsn⟩ := splitN_named t ht
    have HSN := Lib.hid hsn
    by_cases hq : 4 < PB.length
    · rw [if_pos (h4.1 hq)]
      have e4 : decide (4 < (PB.length : Int)) = true := by simp; omega
      have e4b : decide (4 < PB.length) = true := by simp; omega
      clear hd hsn h4 hW h5 h0 hq g
      go_enter Tryd.func34, Tryd.ntmps34
      go_wp2_with (first | (go_at_call 56; refine (HSN.out _ (hM.below hb)).mono ?_; rintro e w1 ⟨cap, rfl, hb1, hl1, hc1⟩))
      go_ret2
      exact ⟨none, 0, rfl, .inl ⟨rfl, rfl⟩, chain hb hb1⟩
    · rw [if_neg (fun q => hq (h4.2 q))]
      have hWs := hW (by omega)
      have e4 : decide (4 < (PB.length : Int)) = false := by simp; omega
      have e4b : decide (4 < PB.length) = false := by simp; omega
      have hsizes : ∀ x ∈ PB, x.size ≤ 1048576 := fun x hx => by
        have := words_leN 32 t.data.toList x.data.toList (by rw [← hWs]; exact List.mem_map_of_mem hx)
        rw [Lib.size_eq]
        rw [← Lib.size_eq t] at this
        omega
      obtain ⟨n, hn⟩ : ∃ n, PB.length = n := ⟨_, rfl⟩
      obtain ⟨R, hR⟩ : ∃ R, rdAll p s (splitL 32 t.data.toList) = R := ⟨_, rfl⟩
      rw [← hWs] at hR
      rw [← hWs, hR]
      have hrs := fun (x : ByteArray) (hx : x.size ≤ 1048576) (W : World) (q1 : IntCell W 0) (q2 : ErrCell W 2) => readStep_any p c h s x W g hx q1 q2
      have HRS := Lib.hid hrs
      have HR := Lib.hid hR
      have HZ := Lib.hid hsizes
      have HN := Lib.hid hn
      rw [hn] at hsn e4 e4b
      have HSN := Lib.hid hsn
      have hn5 : n ≤ 4 := by omega
      clear hd hsn h4 hW h5 h0 hq g hWs hrs hR hsizes hn
      replace hM := hM.below hb
      replace hE := hE.below hb
      obtain ⟨x0, x1, x2, x3, xf, xl⟩ := BV.four
      go_enter Tryd.func34, Tryd.ntmps34
      go_wp2_with fail
      clear x0 x1 x2 x3 xf xl
      generalize w.alloc (.cells #[.int .i64 p, .int .i64 c, .int .i64 h, .int .i64 s] 29) = ww0 at *
      refine (HSN.out _ hM).mono ?_
      rintro e v0 ⟨cap, rfl, hb1, hl1, hc1⟩
      replace BV := BV.below hb1
      replace hM := hM.below hb1
      replace hE := hE.below hb1
      replace hb := chain hb hb1
      have hC := Lib.hid hc1
      generalize ww0.heap.size = GP at *
      clear hb1 hc1
      go_wp2_with fail
      go_loopg [7, 21] n (fun m q i wr => ∃ (k : Nat) (D : List Stp), k ≤ n ∧ m = n - k ∧ i = .int .i64 k ∧ rdAll p s ((PB.map (·.data.toList)).take k) = some D ∧ OwnT wr v0.heap.size q D ∧ Below v0.heap.size v0 wr)
      case atStart => exact ⟨0, [], by omega, by omega, rfl, rfl, OwnT.nil _ _, Below.refl _ _⟩
      case round =>
        obtain ⟨k, D, hk, hm, rfl, hD, hO, hbel⟩ := hrel
        obtain ⟨x0, x1, x2, x3, xf, xl⟩ := (BV.below hbel).four
        have hszb := hbel.size
        by_cases hlt : k < n
        · have hlt' : (k : Int) < (n : Int) := by omega
          obtain ⟨X, hX⟩ : ∃ X, PB[k]? = some X := ⟨PB[k]'(by have := HN.out; omega), List.getElem?_eq_getElem (by have := HN.out; omega)⟩
          have c0 := cell_keep (hC.out k X hX) hbel
          have hXz := HZ.out X (List.mem_of_getElem? hX)
          have hXm : X.data.toList ∈ PB.map (·.data.toList) := List.mem_map_of_mem (List.mem_of_getElem? hX)
          have hXt : (PB.map (·.data.toList)).take (k + 1) = (PB.map (·.data.toList)).take k ++ [X.data.toList] := by
            rw [List.take_add_one, List.getElem?_map, hX]
            rfl
          have hr := fun W q1 q2 => HRS.out X hXz W q1 q2
          cases hq : rd p s X.data.toList with
          | none =>
            rw [hq] at hr
            have hr : ∀ W, IntCell W 0 → ErrCell W 2 → Calls Tryd.prog 44 #[.agg #[.int .i64 p, .int .i64 c, .int .i64 h, .int .i64 s], .string X] W fun e w' => e = .returned (.tuple #[.agg #[.int .i64 0, .int .i64 0, .int .i64 0, .bool false], .bool false]) ∧ Below W.heap.size W w' := hr
            have HRX := Lib.hid hr
            have hRn := rdAll_fail p s _ _ hXm hq
            have HRN := Lib.hid hRn
            clear hr hq hRn hXm hXt hXz hX hD
            go_wp2_with (first | (go_at_call 44; refine (HRX.out _ (hM.below hbel) (hE.below hbel)).mono ?_; rintro e w5 ⟨rfl, hb5⟩))
            go_ret2
            have hRe := HR.out
            rw [HRN.out] at hRe
            rw [← hRe]
            exact ⟨none, 0, rfl, .inl ⟨rfl, rfl⟩, chain hb (chain hbel (from_alloc_to hb5 _))⟩
          | some x =>
            obtain ⟨F, TT, Q, H⟩ := x
            rw [hq] at hr
            have hr : ∀ W, IntCell W 0 → ErrCell W 2 → Calls Tryd.prog 44 #[.agg #[.int .i64 p, .int .i64 c, .int .i64 h, .int .i64 s], .string X] W fun e w' => e = .returned (.tuple #[.agg #[.int .i64 F, .int .i64 TT, .int .i64 Q, .bool H], .bool true]) ∧ Below W.heap.size W w' := hr
            have HRX := Lib.hid hr
            have hD2 : rdAll p s ((PB.map (·.data.toList)).take (k + 1)) = some (D ++ [(F, TT, Q, H)]) := by rw [hXt]; exact rdAll_snoc p s _ _ _ _ hD hq
            have HD2 := Lib.hid hD2
            have hDl : D.length ≤ 1048576 := by
              have := rdAll_len p s _ _ hD
              rw [List.length_take] at this
              omega
            clear hr hq hXm hXt hXz hX hD hD2
            go_wp2_with (first | (go_at_call 44; refine (HRX.out _ (hM.below hbel) (hE.below hbel)).mono ?_; rintro e w5 ⟨rfl, hb5⟩) | (at_builtin; refine wp_pushT rfl _ _ rfl v0.heap.size _ D rfl ((hO.kept hb5).alloc (.cells #[.int .i64 F, .int .i64 TT, .int .i64 Q, .bool H] 38)) (F, TT, Q, H) rfl (by simp) hDl (Nat.le_trans (Nat.le_trans hszb hb5.size) (by simp)) ?_; intro v2 w8 hO2 hb8))
            go_roundg (n - (k + 1))
            case measure => omega
            case rel => exact ⟨k + 1, D ++ [(F, TT, Q, H)], by omega, rfl, by go_num, HD2.out, hO2, (chain hbel (from_alloc_to hb5 _)).trans hb8⟩
        · obtain rfl : k = n := by omega
          rw [List.take_of_length_le (by rw [List.length_map, HN.out]; omega)] at hD
          have hRe := HR.out
          rw [hD] at hRe
          obtain ⟨a0, k0, rfl⟩ := hO.form
          have hos := hO.ost
          have HRe := Lib.hid hRe
          clear hRe hD HR HRS HZ HSN hC
          go_wp2
          go_ret2
          rw [← HRe.out]
          exact ⟨a0, k0, rfl, hos.mono hb.size (Nat.le_refl _), chain hb hbel⟩
end Go.Proofs.YthfhiggageejbaaDoor
