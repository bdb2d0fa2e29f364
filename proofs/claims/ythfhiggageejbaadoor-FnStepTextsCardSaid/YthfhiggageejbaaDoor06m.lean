/- Contract of the program's function that guesses a step from a text. -/
import Derived.Test.YthfhiggageejbaaDoor06l
import Derived.Test.YthfhiggageejbaaDoor06e
namespace Go.Proofs.YthfhiggageejbaaDoor
open Go.ChangeShapes Go.WideShapes Go.ChangeAt Go.RowKit
set_option linter.unusedVariables false
set_option linter.unusedSimpArgs false

/-- A variable that holds a number. -/
def IntCell (w : World) (g : Nat) : Prop := ∃ m : Int, w.cell? ⟨g, 0, none⟩ = some (.int .i64 m)
theorem IntCell.below {w w' : World} {g : Nat} (h : IntCell w g) (hb : Below w.heap.size w w') : IntCell w' g := by
  obtain ⟨m, h1⟩ := h
  exact ⟨m, (hb.cell (p := ⟨g, 0, none⟩) (World.block_lt_of_cell? w _ h1)).trans h1⟩
theorem IntCell.drew {w : World} {g : Nat} (h : IntCell w g) : IntCell w.drew g := h
theorem cut_sizes (l sep : List UInt8) : (Lib.cut l sep).1.length ≤ l.length ∧ (Lib.cut l sep).2.1.length ≤ l.length := by
  unfold Lib.cut
  split
  · simp only [List.length_take, List.length_drop]; omega
  · simp
theorem mk_size (l : List UInt8) : (⟨l.toArray⟩ : ByteArray).size = l.length := by simp [ByteArray.size]
theorem cut_named (t sep : ByteArray) (ht : t.size ≤ 1048576) : ∃ (A R : ByteArray) (b : Bool), A.data.toList = (Lib.cut t.data.toList sep.data.toList).1 ∧ R.data.toList = (Lib.cut t.data.toList sep.data.toList).2.1 ∧ b = (Lib.cut t.data.toList sep.data.toList).2.2 ∧ A.size ≤ t.size ∧ R.size ≤ t.size ∧
    ∀ w, IntCell w 0 → Calls Tryd.prog 32 #[.string t, .string sep] w fun e w' => e = .returned (.tuple #[.string A, .string R, .bool b]) ∧ Below w.heap.size w w' := by
  have h := cut_sizes t.data.toList sep.data.toList
  refine ⟨⟨(Lib.cut t.data.toList sep.data.toList).1.toArray⟩, ⟨(Lib.cut t.data.toList sep.data.toList).2.1.toArray⟩, _, rfl, rfl, rfl, ?_, ?_, ?_⟩
  · rw [mk_size, Lib.size_eq t]; exact h.1
  · rw [mk_size, Lib.size_eq t]; exact h.2
  · rintro w ⟨m, hm⟩
    refine (Tryd.strings_Cut t sep m w (by omega) hm).mono ?_
    rintro e w' ⟨rfl, k, rfl⟩
    exact ⟨rfl, ⟨rfl, rfl, rfl, Nat.le_refl _, fun _ _ => rfl⟩⟩
theorem trim_size (l p : List UInt8) : (Lib.trimSuffix l p).length ≤ l.length := by
  unfold Lib.trimSuffix
  split
  · simp only [List.length_take]; omega
  · exact Nat.le_refl _
theorem cutSuffix_named (t p : ByteArray) (ht : t.size ≤ 1048576) : ∃ (A : ByteArray) (b : Bool), A.data.toList = Lib.trimSuffix t.data.toList p.data.toList ∧ b = Lib.hasSuffix t.data.toList p.data.toList ∧ A.size ≤ t.size ∧
    ∀ w, Calls Tryd.prog 74 #[.string t, .string p] w fun e w' => e = .returned (.tuple #[.string A, .bool b]) ∧ Below w.heap.size w w' := by
  have h := trim_size t.data.toList p.data.toList
  refine ⟨⟨(Lib.trimSuffix t.data.toList p.data.toList).toArray⟩, _, rfl, rfl, by rw [mk_size, Lib.size_eq t]; exact h, fun w => ?_⟩
  refine (Tryd.strings_CutSuffix t p w (by omega)).mono ?_
  rintro e w' ⟨rfl, rfl⟩
  exact ⟨rfl, Below.refl _ _⟩
theorem trimSuffix_named (t p : ByteArray) (ht : t.size ≤ 1048576) : ∃ (A : ByteArray), A.data.toList = Lib.trimSuffix t.data.toList p.data.toList ∧ A.size ≤ t.size ∧
    ∀ w, Calls Tryd.prog 77 #[.string t, .string p] w fun e w' => e = .returned (.string A) ∧ Below w.heap.size w w' := by
  have h := trim_size t.data.toList p.data.toList
  refine ⟨⟨(Lib.trimSuffix t.data.toList p.data.toList).toArray⟩, rfl, by rw [mk_size, Lib.size_eq t]; exact h, fun w => ?_⟩
  refine (Tryd.strings_TrimSuffix t p w (by omega)).mono ?_
  rintro e w' ⟨rfl, rfl⟩
  exact ⟨rfl, Below.refl _ _⟩
theorem heldS4 {w W w2 : World} {p c h s : Int} (hS : W.cell? ⟨w.heap.size, 0, none⟩ = some (.int .i64 p) ∧ W.cell? ⟨w.heap.size, 1, none⟩ = some (.int .i64 c) ∧ W.cell? ⟨w.heap.size, 2, none⟩ = some (.int .i64 h) ∧ W.cell? ⟨w.heap.size, 3, none⟩ = some (.int .i64 s) ∧ Blk W (w.heap.size + 1) #[.int .i64 0, .int .i64 0, .int .i64 0, .bool false] 38 ∧ ErrCell W 2 ∧ Below w.heap.size w W) (hb : Below W.heap.size W w2) : w2.cell? ⟨w.heap.size, 0, none⟩ = some (.int .i64 p) ∧ w2.cell? ⟨w.heap.size, 1, none⟩ = some (.int .i64 c) ∧ w2.cell? ⟨w.heap.size, 2, none⟩ = some (.int .i64 h) ∧ w2.cell? ⟨w.heap.size, 3, none⟩ = some (.int .i64 s) ∧ Blk w2 (w.heap.size + 1) #[.int .i64 0, .int .i64 0, .int .i64 0, .bool false] 38 ∧ ErrCell w2 2 ∧ Below w.heap.size w w2 := by
  obtain ⟨a0, a1, a2, a3, B, E, h⟩ := hS
  exact ⟨cell_keep a0 hb, cell_keep a1 hb, cell_keep a2 hb, cell_keep a3 hb, B.below hb, E.below hb, chain h hb⟩
theorem cell_far4 {W : World} {B b o : Nat} {v0 v1 v2 v3 v : Value} (h : W.cell? ⟨b, o, none⟩ = some v) (hne : b ≠ B) : ((((W.setCell ⟨B, 0, none⟩ (v0)).setCell ⟨B, 1, none⟩ (v1)).setCell ⟨B, 2, none⟩ (v2)).setCell ⟨B, 3, none⟩ (v3)).cell? ⟨b, o, none⟩ = some v := by
  have e : ∀ (W' : World) (j : Nat) (u : Value), (W'.setCell ⟨B, j, none⟩ u).cell? ⟨b, o, none⟩ = W'.cell? ⟨b, o, none⟩ := fun W' j u => World.cell?_setCell_far _ _ _ _ (by simpa using fun q => hne q.symm)
  rw [e, e, e, e]
  exact h
theorem storeS4 {w W : World} {p c h s : Int} {B : Nat} {v0 v1 v2 v3 : Value} (hS : W.cell? ⟨w.heap.size, 0, none⟩ = some (.int .i64 p) ∧ W.cell? ⟨w.heap.size, 1, none⟩ = some (.int .i64 c) ∧ W.cell? ⟨w.heap.size, 2, none⟩ = some (.int .i64 h) ∧ W.cell? ⟨w.heap.size, 3, none⟩ = some (.int .i64 s) ∧ Blk W (w.heap.size + 1) #[.int .i64 0, .int .i64 0, .int .i64 0, .bool false] 38 ∧ ErrCell W 2 ∧ Below w.heap.size w W) (hE : 2 < w.heap.size) (hB : w.heap.size + 1 < B) : ((((W.setCell ⟨B, 0, none⟩ (v0)).setCell ⟨B, 1, none⟩ (v1)).setCell ⟨B, 2, none⟩ (v2)).setCell ⟨B, 3, none⟩ (v3)).cell? ⟨w.heap.size, 0, none⟩ = some (.int .i64 p) ∧ ((((W.setCell ⟨B, 0, none⟩ (v0)).setCell ⟨B, 1, none⟩ (v1)).setCell ⟨B, 2, none⟩ (v2)).setCell ⟨B, 3, none⟩ (v3)).cell? ⟨w.heap.size, 1, none⟩ = some (.int .i64 c) ∧ ((((W.setCell ⟨B, 0, none⟩ (v0)).setCell ⟨B, 1, none⟩ (v1)).setCell ⟨B, 2, none⟩ (v2)).setCell ⟨B, 3, none⟩ (v3)).cell? ⟨w.heap.size, 2, none⟩ = some (.int .i64 h) ∧ ((((W.setCell ⟨B, 0, none⟩ (v0)).setCell ⟨B, 1, none⟩ (v1)).setCell ⟨B, 2, none⟩ (v2)).setCell ⟨B, 3, none⟩ (v3)).cell? ⟨w.heap.size, 3, none⟩ = some (.int .i64 s) ∧ Blk ((((W.setCell ⟨B, 0, none⟩ (v0)).setCell ⟨B, 1, none⟩ (v1)).setCell ⟨B, 2, none⟩ (v2)).setCell ⟨B, 3, none⟩ (v3)) (w.heap.size + 1) #[.int .i64 0, .int .i64 0, .int .i64 0, .bool false] 38 ∧ ErrCell ((((W.setCell ⟨B, 0, none⟩ (v0)).setCell ⟨B, 1, none⟩ (v1)).setCell ⟨B, 2, none⟩ (v2)).setCell ⟨B, 3, none⟩ (v3)) 2 ∧ Below w.heap.size w ((((W.setCell ⟨B, 0, none⟩ (v0)).setCell ⟨B, 1, none⟩ (v1)).setCell ⟨B, 2, none⟩ (v2)).setCell ⟨B, 3, none⟩ (v3)) := by
  obtain ⟨a0, a1, a2, a3, Bk, ⟨ev, E1, E2⟩, h⟩ := hS
  exact ⟨cell_far4 a0 (by omega), cell_far4 a1 (by omega), cell_far4 a2 (by omega), cell_far4 a3 (by omega), (((Bk.other (by omega)).other (by omega)).other (by omega)).other (by omega), ⟨ev, cell_far4 E1 (by omega), E2⟩, (((h.setCell (p := ⟨B, 0, none⟩) (by show _ ≤ B; omega) _).setCell (p := ⟨B, 1, none⟩) (by show _ ≤ B; omega) _).setCell (p := ⟨B, 2, none⟩) (by show _ ≤ B; omega) _).setCell (p := ⟨B, 3, none⟩) (by show _ ≤ B; omega) _⟩
theorem Blk.self4 {W : World} {B : Nat} {q0 q1 q2 q3 v0 v1 v2 v3 : Value} {t : TypeId} (h : Blk W B #[q0, q1, q2, q3] t) : Blk ((((W.setCell ⟨B, 0, none⟩ (v0)).setCell ⟨B, 1, none⟩ (v1)).setCell ⟨B, 2, none⟩ (v2)).setCell ⟨B, 3, none⟩ (v3)) B #[v0, v1, v2, v3] t := by
  have := ((((h.set (i := 0) v0).set (i := 1) v1).set (i := 2) v2).set (i := 3) v3)
  simp only [List.setIfInBounds_toArray, List.set_cons_zero, List.set_cons_succ] at this
  exact this
set_option maxRecDepth 8000 in
set_option maxHeartbeats 4000000 in
theorem scanStep_any (p c h s : Int) (t : ByteArray) (w : World) (hp : 2 ≤ p ∧ p ≤ 24) (ht : t.size ≤ 8) (hM : IntCell w 0) (hE : ErrCell w 2) :
    Calls Tryd.prog 64 #[.agg #[.int .i64 p, .int .i64 c, .int .i64 h, .int .i64 s], .string t] w fun e w' => e = .returned (.agg #[.int .i64 (plN p (scA t.data.toList)), .int .i64 (plN p (scT (scR t.data.toList))), .int .i64 (scDie (plN p (scA t.data.toList)) (plN p (scT (scR t.data.toList))) (scR t.data.toList)), .bool (scH (scR t.data.toList))]) ∧ Below w.heap.size w w' := by
  have hEl : 2 < w.heap.size := by obtain ⟨ev, h1, _⟩ := hE; exact World.block_lt_of_cell? w _ h1
  obtain ⟨A, R, b1, hA, hR, hb1_, sA, sR, hc1⟩ := cut_named t ⟨#[47]⟩ (by omega)
  obtain ⟨P1, D1, nb, hP1, hD1, hnb, sP, sD, hc2⟩ := cut_named R ⟨#[40]⟩ (by omega)
  obtain ⟨TO, H, hTO, hH, sTO, hcs⟩ := cutSuffix_named P1 ⟨#[42]⟩ (by omega)
  obtain ⟨DD, hDD, sDD, hts⟩ := trimSuffix_named D1 ⟨#[41]⟩ (by omega)
  have eA : scA t.data.toList = A.data.toList := hA.symm
  have eR : scR t.data.toList = R.data.toList := hR.symm
  have eT : scT R.data.toList = TO.data.toList := by rw [hTO, hP1]
  have eH : scH R.data.toList = H := by rw [hH, hP1]
  have eN : scN R.data.toList = nb := hnb.symm
  have eD : scD R.data.toList = DD.data.toList := by rw [hDD, hD1]
  rw [eA, eR, eT, eH]
  unfold scDie
  rw [eN, eD]
  have hF := fun (W : World) (q : ErrCell W 2) => placeOfText_any p c h s A W hp (by omega) q
  have hT := fun (W : World) (q : ErrCell W 2) => placeOfText_any p c h s TO W hp (by omega) q
  have hPI := fun (W : World) (q : ErrCell W 2) => parseInt_any DD W (by omega) q
  clear hA hR hb1_ hP1 hD1 hnb hTO hH hDD eA eR eT eH eN eD sA sR sP sD sTO sDD
  generalize plN p A.data.toList = F at *
  generalize plN p TO.data.toList = TT at *
  generalize (Lib.atoi DD.data.toList).getD 0 = X at *
  obtain ⟨WZ, hWZ⟩ : ∃ z, IntKind.i64.wrap (F - TT) = z := ⟨_, rfl⟩
  rw [hWZ]
  obtain ⟨DF, hDF⟩ : ∃ d, (if nb = true then X else WZ) = d := ⟨_, rfl⟩
  rw [hDF]
  have HDF := Lib.hid hDF
  clear hDF
  have HC1 := Lib.hid hc1
  have HC2 := Lib.hid hc2
  have HCS := Lib.hid hcs
  have HTS := Lib.hid hts
  have HF := Lib.hid hF
  have HT := Lib.hid hT
  have HPI := Lib.hid hPI
  clear hc1 hc2 hcs hts hF hT hPI
  obtain ⟨BV, BG, hb, hz⟩ := two_new w #[.int .i64 p, .int .i64 c, .int .i64 h, .int .i64 s] #[.int .i64 0, .int .i64 0, .int .i64 0, .bool false] 29 38
  clear hz
  obtain ⟨x0, x1, x2, x3, xf, xl⟩ := BV.four
  go_enter Tryd.func64, Tryd.ntmps64
  go_wp2_with (first | (go_at_call 32; refine (HC1.out _ (hM.below hb)).mono ?_; clear HC1; rintro e w1 ⟨rfl, hb1⟩) | (go_at_call 32; refine (HC2.out _ (hM.below (chain hb hb1))).mono ?_; clear HC2; rintro e w2 ⟨rfl, hb2⟩) | (go_at_call 74; refine (HCS.out _).mono ?_; clear HCS; rintro e w3 ⟨rfl, hb3⟩; obtain ⟨x0, x1, x2, x3, xf, xl⟩ := (BV.below (chain (chain hb1 hb2) hb3)).four))
  have hb' := chain (chain hb1 hb2) hb3
  replace BG := BG.below hb'
  replace hE := (hE.below hb).below hb'
  replace hb := chain hb hb'
  clear hb' hb1 hb2 hb3 xf xl BV
  obtain ⟨J, hJ⟩ : ∃ J : Act → Act → World → Prop, J = fun a a' w' => ∃ B, a' = (((((((((a.put (some 30) (.agg #[.int .i64 p, .int .i64 c, .int .i64 h, .int .i64 s])).put (some 31) (.string A)).put (some 32) (.int .i64 F)).put (some 33) (.agg #[.int .i64 p, .int .i64 c, .int .i64 h, .int .i64 s])).put (some 34) (.string TO)).put (some 35) (.int .i64 TT)).put (some 36) (.bool H)).put (some 37) (.agg #[.int .i64 F, .int .i64 TT, .int .i64 0, .bool H])).put (some 12) (.pointer (some ⟨B, 0, none⟩))) ∧ Blk w' B #[.int .i64 F, .int .i64 TT, .int .i64 0, .bool H] 38 ∧ w.heap.size + 1 < B ∧ (w'.cell? ⟨w.heap.size, 0, none⟩ = some (.int .i64 p) ∧ w'.cell? ⟨w.heap.size, 1, none⟩ = some (.int .i64 c) ∧ w'.cell? ⟨w.heap.size, 2, none⟩ = some (.int .i64 h) ∧ w'.cell? ⟨w.heap.size, 3, none⟩ = some (.int .i64 s) ∧ Blk w' (w.heap.size + 1) #[.int .i64 0, .int .i64 0, .int .i64 0, .bool false] 38 ∧ ErrCell w' 2 ∧ Below w.heap.size w w') := ⟨_, rfl⟩
  have HJ := Lib.hid hJ
  clear hJ
  refine wp_region_join J ?_ ?_
  · skip
    refine wp_region_held_drew (S := fun w' => w'.cell? ⟨w.heap.size, 0, none⟩ = some (.int .i64 p) ∧ w'.cell? ⟨w.heap.size, 1, none⟩ = some (.int .i64 c) ∧ w'.cell? ⟨w.heap.size, 2, none⟩ = some (.int .i64 h) ∧ w'.cell? ⟨w.heap.size, 3, none⟩ = some (.int .i64 s) ∧ Blk w' (w.heap.size + 1) #[.int .i64 0, .int .i64 0, .int .i64 0, .bool false] 38 ∧ ErrCell w' 2 ∧ Below w.heap.size w w') (by kernel_rfl) ⟨x0, x1, x2, x3, BG, hE.drew, hb.drew⟩ (fun hHeld => ?_)
    clear x0 x1 x2 x3 hb BG hE
    generalize w3.drew = vd at *
    have hprev := hHeld.2.2.2.2.1.lt
    refine wpAnyH_take (i := 0) (oi := { dst := some 30, op := _, type := _, pos := _, after := _, guard := _ }) (v := ?_) rfl (by kernel_rfl) (by kernel_rfl) (by kernel_rfl) (fun _ _ _ h => absurd h.1 (by simp)) (Or.inl ⟨by rfl, ?_⟩) (by assumption) ?_
    rotate_left
    · intro w hSw
      (try dsimp only at hSw)
      go_simp
      (try (with_reducible rfl))
    try simp only [Act.put, List.setIfInBounds_toArray, List.set_cons_zero, List.set_cons_succ]
    refine wpAnyH_take (i := 1) (oi := { dst := some 31, op := _, type := _, pos := _, after := _, guard := _ }) (v := ?_) rfl (by kernel_rfl) (by kernel_rfl) (by kernel_rfl) (fun _ _ _ h => absurd h.1 (by simp)) (Or.inl ⟨by rfl, ?_⟩) (by assumption) ?_
    rotate_left
    · intro w hSw
      (try dsimp only at hSw)
      go_simp
      (try (with_reducible rfl))
    try simp only [Act.put, List.setIfInBounds_toArray, List.set_cons_zero, List.set_cons_succ]
    refine wpAnyH_take (i := 3) (oi := { dst := some 33, op := _, type := _, pos := _, after := _, guard := _ }) (v := ?_) rfl (by kernel_rfl) (by kernel_rfl) (by kernel_rfl) (fun _ _ _ h => absurd h.1 (by simp)) (Or.inl ⟨by rfl, ?_⟩) (by assumption) ?_
    rotate_left
    · intro w hSw
      (try dsimp only at hSw)
      go_simp
      (try (with_reducible rfl))
    try simp only [Act.put, List.setIfInBounds_toArray, List.set_cons_zero, List.set_cons_succ]
    refine wpAnyH_take (i := 4) (oi := { dst := some 34, op := _, type := _, pos := _, after := _, guard := _ }) (v := ?_) rfl (by kernel_rfl) (by kernel_rfl) (by kernel_rfl) (fun _ _ _ h => absurd h.1 (by simp)) (Or.inl ⟨by rfl, ?_⟩) (by assumption) ?_
    rotate_left
    · intro w hSw
      (try dsimp only at hSw)
      go_simp
      (try (with_reducible rfl))
    try simp only [Act.put, List.setIfInBounds_toArray, List.set_cons_zero, List.set_cons_succ]
    refine wpAnyH_take (i := 6) (oi := { dst := some 36, op := _, type := _, pos := _, after := _, guard := _ }) (v := ?_) rfl (by kernel_rfl) (by kernel_rfl) (by kernel_rfl) (fun _ _ _ h => absurd h.1 (by simp)) (Or.inl ⟨by rfl, ?_⟩) (by assumption) ?_
    rotate_left
    · intro w hSw
      (try dsimp only at hSw)
      go_simp
      (try (with_reducible rfl))
    try simp only [Act.put, List.setIfInBounds_toArray, List.set_cons_zero, List.set_cons_succ]
    refine wpAnyH_ready (rs := [2, 8]) (by kernel_rfl) (by simp) ?_
    refine AllReadyH.cons (o := { dst := some 32, op := _, type := _, pos := _, after := _, guard := _ }) rfl (fun K hK => ?_) (AllReadyH.cons (o := { dst := some 12, op := _, type := _, pos := _, after := _, guard := _ }) rfl (fun K hK => ?_) AllReadyH.nil)
    · go_simp
      refine (HF.out _ hHeld.2.2.2.2.2.1).mono ?_
      rintro e wA ⟨rfl, hbwA⟩
      have hprev := (heldS4 hHeld hbwA).2.2.2.2.1.lt
      (try go_wp2_with fail)
      refine hK.out _ _ (heldS4 hHeld hbwA) (fun hHeld => ?_)
      clear hK K
      try simp only [Act.put, List.setIfInBounds_toArray, List.set_cons_zero, List.set_cons_succ]
      refine wpAnyH_ready (rs := [5, 8]) (by kernel_rfl) (by simp) ?_
      refine AllReadyH.cons (o := { dst := some 35, op := _, type := _, pos := _, after := _, guard := _ }) rfl (fun K hK => ?_) (AllReadyH.cons (o := { dst := some 12, op := _, type := _, pos := _, after := _, guard := _ }) rfl (fun K hK => ?_) AllReadyH.nil)
      · go_simp
        refine (HT.out _ hHeld.2.2.2.2.2.1).mono ?_
        rintro e wB ⟨rfl, hbwB⟩
        have hprev := (heldS4 hHeld hbwB).2.2.2.2.1.lt
        (try go_wp2_with fail)
        refine hK.out _ _ (heldS4 hHeld hbwB) (fun hHeld => ?_)
        clear hK K
        try simp only [Act.put, List.setIfInBounds_toArray, List.set_cons_zero, List.set_cons_succ]
        refine wpAnyH_take (i := 7) (oi := { dst := some 37, op := _, type := _, pos := _, after := _, guard := _ }) (v := ?_) rfl (by kernel_rfl) (by kernel_rfl) (by kernel_rfl) (fun _ _ _ h => absurd h.1 (by simp)) (Or.inl ⟨by rfl, ?_⟩) (by assumption) ?_
        rotate_left
        · intro w hSw
          (try dsimp only at hSw)
          go_simp
          (try (with_reducible rfl))
        try simp only [Act.put, List.setIfInBounds_toArray, List.set_cons_zero, List.set_cons_succ]
        refine wpAnyH_ready (rs := [8]) (by kernel_rfl) (by simp) ?_
        refine AllReadyH.cons (o := { dst := some 12, op := _, type := _, pos := _, after := _, guard := _ }) rfl (fun K hK => ?_) AllReadyH.nil
        go_simp
        refine hK.out _ _ (heldS4 hHeld ((Below.refl _ _).alloc (Nat.le_refl _) _)) (fun hHeld => ?_)
        clear hK K
        try simp only [Act.put, List.setIfInBounds_toArray, List.set_cons_zero, List.set_cons_succ]
        have BA := Blk.new wB #[.int .i64 0, .int .i64 0, .int .i64 0, .bool false] 38
        have hlt : w.heap.size + 1 < wB.heap.size := hprev
        generalize wB.heap.size = BX at *
        generalize wB.alloc (.cells #[.int .i64 0, .int .i64 0, .int .i64 0, .bool false] 38) = wN at *
        refine wpAnyH_ready (rs := [9]) (by kernel_rfl) (by simp) ?_
        refine AllReadyH.cons (o := { dst := none, op := _, type := _, pos := _, after := _, guard := _ }) rfl (fun K hK => ?_) AllReadyH.nil
        obtain ⟨q0, q1, q2, q3, qf, ql⟩ := BA.four
        go_simp
        (try go_wp2_with fail)
        refine hK.out _ _ (storeS4 hHeld hEl hlt) (fun hHeld => ?_)
        clear hK K
        try simp only [Act.put, List.setIfInBounds_toArray, List.set_cons_zero, List.set_cons_succ]
        refine wpAnyH_done (by kernel_rfl) ?_ _
        rw [HJ.out]
        refine ⟨rfl, _, ?_, BA.self4, hlt, hHeld⟩
        (first | (simp only [Act.put, List.setIfInBounds_toArray, List.set_cons_zero, List.set_cons_succ]; done) | rfl)
      · go_simp
        refine hK.out _ _ (heldS4 hHeld ((Below.refl _ _).alloc (Nat.le_refl _) _)) (fun hHeld => ?_)
        clear hK K
        try simp only [Act.put, List.setIfInBounds_toArray, List.set_cons_zero, List.set_cons_succ]
        have BA := Blk.new wA #[.int .i64 0, .int .i64 0, .int .i64 0, .bool false] 38
        have hlt : w.heap.size + 1 < wA.heap.size := hprev
        generalize wA.heap.size = BX at *
        generalize wA.alloc (.cells #[.int .i64 0, .int .i64 0, .int .i64 0, .bool false] 38) = wN at *
        refine wpAnyH_ready (rs := [5]) (by kernel_rfl) (by simp) ?_
        refine AllReadyH.cons (o := { dst := some 35, op := _, type := _, pos := _, after := _, guard := _ }) rfl (fun K hK => ?_) AllReadyH.nil
        go_simp
        refine (HT.out _ hHeld.2.2.2.2.2.1).mono ?_
        rintro e wB ⟨rfl, hbwB⟩
        replace BA := BA.below hbwB
        have hprev := (heldS4 hHeld hbwB).2.2.2.2.1.lt
        (try go_wp2_with fail)
        refine hK.out _ _ (heldS4 hHeld hbwB) (fun hHeld => ?_)
        clear hK K
        try simp only [Act.put, List.setIfInBounds_toArray, List.set_cons_zero, List.set_cons_succ]
        refine wpAnyH_take (i := 7) (oi := { dst := some 37, op := _, type := _, pos := _, after := _, guard := _ }) (v := ?_) rfl (by kernel_rfl) (by kernel_rfl) (by kernel_rfl) (fun _ _ _ h => absurd h.1 (by simp)) (Or.inl ⟨by rfl, ?_⟩) (by assumption) ?_
        rotate_left
        · intro w hSw
          (try dsimp only at hSw)
          go_simp
          (try (with_reducible rfl))
        try simp only [Act.put, List.setIfInBounds_toArray, List.set_cons_zero, List.set_cons_succ]
        refine wpAnyH_ready (rs := [9]) (by kernel_rfl) (by simp) ?_
        refine AllReadyH.cons (o := { dst := none, op := _, type := _, pos := _, after := _, guard := _ }) rfl (fun K hK => ?_) AllReadyH.nil
        obtain ⟨q0, q1, q2, q3, qf, ql⟩ := BA.four
        go_simp
        (try go_wp2_with fail)
        refine hK.out _ _ (storeS4 hHeld hEl hlt) (fun hHeld => ?_)
        clear hK K
        try simp only [Act.put, List.setIfInBounds_toArray, List.set_cons_zero, List.set_cons_succ]
        refine wpAnyH_done (by kernel_rfl) ?_ _
        rw [HJ.out]
        refine ⟨rfl, _, ?_, BA.self4, hlt, hHeld⟩
        (first | (simp only [Act.put, List.setIfInBounds_toArray, List.set_cons_zero, List.set_cons_succ]; done) | rfl)
    · go_simp
      refine hK.out _ _ (heldS4 hHeld ((Below.refl _ _).alloc (Nat.le_refl _) _)) (fun hHeld => ?_)
      clear hK K
      try simp only [Act.put, List.setIfInBounds_toArray, List.set_cons_zero, List.set_cons_succ]
      have BA := Blk.new vd #[.int .i64 0, .int .i64 0, .int .i64 0, .bool false] 38
      have hlt : w.heap.size + 1 < vd.heap.size := hprev
      generalize vd.heap.size = BX at *
      generalize vd.alloc (.cells #[.int .i64 0, .int .i64 0, .int .i64 0, .bool false] 38) = wN at *
      refine wpAnyH_ready (rs := [2]) (by kernel_rfl) (by simp) ?_
      refine AllReadyH.cons (o := { dst := some 32, op := _, type := _, pos := _, after := _, guard := _ }) rfl (fun K hK => ?_) AllReadyH.nil
      go_simp
      refine (HF.out _ hHeld.2.2.2.2.2.1).mono ?_
      rintro e wA ⟨rfl, hbwA⟩
      replace BA := BA.below hbwA
      have hprev := (heldS4 hHeld hbwA).2.2.2.2.1.lt
      (try go_wp2_with fail)
      refine hK.out _ _ (heldS4 hHeld hbwA) (fun hHeld => ?_)
      clear hK K
      try simp only [Act.put, List.setIfInBounds_toArray, List.set_cons_zero, List.set_cons_succ]
      refine wpAnyH_ready (rs := [5]) (by kernel_rfl) (by simp) ?_
      refine AllReadyH.cons (o := { dst := some 35, op := _, type := _, pos := _, after := _, guard := _ }) rfl (fun K hK => ?_) AllReadyH.nil
      go_simp
      refine (HT.out _ hHeld.2.2.2.2.2.1).mono ?_
      rintro e wB ⟨rfl, hbwB⟩
      replace BA := BA.below hbwB
      have hprev := (heldS4 hHeld hbwB).2.2.2.2.1.lt
      (try go_wp2_with fail)
      refine hK.out _ _ (heldS4 hHeld hbwB) (fun hHeld => ?_)
      clear hK K
      try simp only [Act.put, List.setIfInBounds_toArray, List.set_cons_zero, List.set_cons_succ]
      refine wpAnyH_take (i := 7) (oi := { dst := some 37, op := _, type := _, pos := _, after := _, guard := _ }) (v := ?_) rfl (by kernel_rfl) (by kernel_rfl) (by kernel_rfl) (fun _ _ _ h => absurd h.1 (by simp)) (Or.inl ⟨by rfl, ?_⟩) (by assumption) ?_
      rotate_left
      · intro w hSw
        (try dsimp only at hSw)
        go_simp
        (try (with_reducible rfl))
      try simp only [Act.put, List.setIfInBounds_toArray, List.set_cons_zero, List.set_cons_succ]
      refine wpAnyH_ready (rs := [9]) (by kernel_rfl) (by simp) ?_
      refine AllReadyH.cons (o := { dst := none, op := _, type := _, pos := _, after := _, guard := _ }) rfl (fun K hK => ?_) AllReadyH.nil
      obtain ⟨q0, q1, q2, q3, qf, ql⟩ := BA.four
      go_simp
      (try go_wp2_with fail)
      refine hK.out _ _ (storeS4 hHeld hEl hlt) (fun hHeld => ?_)
      clear hK K
      try simp only [Act.put, List.setIfInBounds_toArray, List.set_cons_zero, List.set_cons_succ]
      refine wpAnyH_done (by kernel_rfl) ?_ _
      rw [HJ.out]
      refine ⟨rfl, _, ?_, BA.self4, hlt, hHeld⟩
      (first | (simp only [Act.put, List.setIfInBounds_toArray, List.set_cons_zero, List.set_cons_succ]; done) | rfl)
  · intro a' w6 hj
    rw [HJ.out] at hj
    obtain ⟨B, rfl, B6, hlt, _, _, _, _, BG6, E6, hb6⟩ := hj
    clear HJ HF HT x0 x1 x2 x3 BG hE hb
    try simp only [Act.put, List.setIfInBounds_toArray, List.set_cons_zero, List.set_cons_succ]
    obtain ⟨k0, k1, k2, k3, kf, kl⟩ := B6.four
    obtain ⟨j0, j1, j2, j3, jf, jl⟩ := BG6.four
    cases nb with
    | false =>
      have hd := HDF.out
      rw [if_neg (by decide)] at hd
      subst hd
      clear HDF HTS HPI
      go_wp2
      refine bodyPost_ret (v := .agg #[.int .i64 F, .int .i64 TT, .int .i64 WZ, .bool H]) (by simp [results, Tryd.results64, go_sem, j0, j1, j2, j3]) rfl ?_
      exact ⟨rfl, (((((hb6.setCell (p := ⟨B, 2, none⟩) (by show _ ≤ B; omega) _).setCell (p := ⟨w.heap.size + 1, 0, none⟩) (by show _ ≤ w.heap.size + 1; omega) _).setCell (p := ⟨w.heap.size + 1, 1, none⟩) (by show _ ≤ w.heap.size + 1; omega) _).setCell (p := ⟨w.heap.size + 1, 2, none⟩) (by show _ ≤ w.heap.size + 1; omega) _).setCell (p := ⟨w.heap.size + 1, 3, none⟩) (by show _ ≤ w.heap.size + 1; omega) _)⟩
    | true =>
      have hd := HDF.out
      rw [if_pos rfl] at hd
      subst hd
      have B7 := B6.set (i := 2) (.int .i64 WZ)
      have BG7 := BG6.other (g := B) (o := 2) (v := .int .i64 WZ) (by omega)
      have E7 : ErrCell (w6.setCell ⟨B, 2, none⟩ (.int .i64 WZ)) 2 := by
        obtain ⟨ev, E1, E2⟩ := E6
        exact ⟨ev, (World.cell?_setCell_far _ _ _ _ (by simp; omega)).trans E1, E2⟩
      have hb7_ := hb6.setCell (p := ⟨B, 2, none⟩) (by show _ ≤ B; omega) (.int .i64 WZ)
      clear HDF
      go_wp2_with (first | (go_at_call 77; refine (HTS.out _).mono ?_; clear HTS; rintro e w7 ⟨rfl, hb7⟩) | (go_at_call 76; refine (HPI.out _ (E7.below hb7)).mono ?_; clear HPI; rintro e w8 ⟨EE, rfl, hb8⟩; obtain ⟨k0, k1, k2, k3, kf, kl⟩ := (B7.below (chain hb7 hb8)).four; obtain ⟨j0, j1, j2, j3, jf, jl⟩ := (BG7.below (chain hb7 hb8)).four))
      have hb8' := chain (chain hb7_ hb7) hb8
      refine bodyPost_ret (v := .agg #[.int .i64 F, .int .i64 TT, .int .i64 X, .bool H]) (by simp [results, Tryd.results64, go_sem, j0, j1, j2, j3]) rfl ?_
      exact ⟨rfl, (((((hb8'.setCell (p := ⟨B, 2, none⟩) (by show _ ≤ B; omega) _).setCell (p := ⟨w.heap.size + 1, 0, none⟩) (by show _ ≤ w.heap.size + 1; omega) _).setCell (p := ⟨w.heap.size + 1, 1, none⟩) (by show _ ≤ w.heap.size + 1; omega) _).setCell (p := ⟨w.heap.size + 1, 2, none⟩) (by show _ ≤ w.heap.size + 1; omega) _).setCell (p := ⟨w.heap.size + 1, 3, none⟩) (by show _ ≤ w.heap.size + 1; omega) _)⟩
end Go.Proofs.YthfhiggageejbaaDoor
