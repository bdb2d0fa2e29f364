/- Contracts of the program on first games and valid games. -/
import Derived.Test.Ytokjkcnjmfbfiaa08d
import Derived.Test.Ytokjkcnjmfbfiaa05h0
namespace Go.Proofs.Ytokjkcnjmfbfiaa
open Go.ChangeShapes Go.WideShapes Go.ChangeAt Go.RowKit
set_option linter.unusedVariables false
set_option linter.unusedSimpArgs false
set_option maxRecDepth 4000

/-- The game at the beginning. -/
def openG (p c h s : Int) : Gm := ⟨startL p c h s, startL p c h s, 0, 0, 0, 0, 0, 0, 0⟩
set_option maxRecDepth 8000 in
set_option maxHeartbeats 2000000 in
theorem beginning_any (p c h s : Int) (w : World) (g : hgB p c h s = true) :
    Calls Try.prog 165 #[.agg #[.int .i64 p, .int .i64 c, .int .i64 h, .int .i64 s]] w fun e w' => ∃ b1 b2, e = .returned (.agg #[.slice (some ⟨b1, 0, none⟩) (openG p c h s).xs.length (openG p c h s).xs.length, .slice (some ⟨b2, 0, none⟩) (openG p c h s).ys.length (openG p c h s).ys.length, .int .i64 0, .int .i64 0, .int .i64 0, .int .i64 0, .int .i64 0, .int .i64 0, .int .i64 0]) ∧ w.heap.size ≤ b1 ∧ b1 < b2 ∧ Row w' b1 (openG p c h s).xs ∧ Row w' b2 (openG p c h s).ys ∧ Below w.heap.size w w' := by
  have g1 : vB p c h s = true := by unfold hgB at g; simp only [Bool.and_eq_true] at g; exact g.1
  have g2 : 4 ≤ p := by unfold hgB at g; simp only [Bool.and_eq_true, decide_eq_true_eq] at g; exact g.2
  have hS := fun W => startSide_any p c h s W g1 g2
  show Calls _ _ _ _ fun e w' => ∃ b1 b2, e = .returned (.agg #[.slice (some ⟨b1, 0, none⟩) (startL p c h s).length (startL p c h s).length, .slice (some ⟨b2, 0, none⟩) (startL p c h s).length (startL p c h s).length, .int .i64 0, .int .i64 0, .int .i64 0, .int .i64 0, .int .i64 0, .int .i64 0, .int .i64 0]) ∧ w.heap.size ≤ b1 ∧ b1 < b2 ∧ Row w' b1 (startL p c h s) ∧ Row w' b2 (startL p c h s) ∧ Below w.heap.size w w'
  obtain ⟨L, hL⟩ : ∃ L, startL p c h s = L := ⟨_, rfl⟩
  rw [hL] at hS ⊢
  obtain ⟨n, hn⟩ : ∃ n, L.length = n := ⟨_, rfl⟩
  have hS' : ∀ W, Calls Try.prog 178 #[.agg #[.int .i64 p, .int .i64 c, .int .i64 h, .int .i64 s]] W fun e w' => ∃ b, e = .returned (.slice (some ⟨b, 0, none⟩) n n) ∧ W.heap.size ≤ b ∧ Row w' b L ∧ Below W.heap.size W w' := fun W => (hS W).mono (by rintro e w' ⟨b, rfl, q1, q2, q3⟩; exact ⟨b, by rw [hn], q1, q2, q3⟩)
  rw [hn]
  have HS := Lib.hid hS'
  clear hS hS' hL hn g g1 g2
  obtain ⟨BV, BO, hb, hz⟩ := two_new' w #[.int .i64 p, .int .i64 c, .int .i64 h, .int .i64 s] #[.slice none 0 0, .slice none 0 0, .int .i64 0, .int .i64 0, .int .i64 0, .int .i64 0, .int .i64 0, .int .i64 0, .int .i64 0] 32 70
  go_enter Try.func165, Try.ntmps165
  obtain ⟨x0, x1, x2, x3, xf, xl⟩ := BV.four
  go_wp2_with fail
  clear x0 x1 x2 x3 xf xl
  generalize ((w.alloc (.cells #[.int .i64 p, .int .i64 c, .int .i64 h, .int .i64 s] 32)).alloc (.cells #[.slice none 0 0, .slice none 0 0, .int .i64 0, .int .i64 0, .int .i64 0, .int .i64 0, .int .i64 0, .int .i64 0, .int .i64 0] 70)) = v0 at *
  obtain ⟨q0_BV, q1_BV, q2_BV, q3_BV, qf_BV, ql_BV⟩ := BV.four
  go_wp2_with fail
  clear q0_BV q1_BV q2_BV q3_BV qf_BV ql_BV
  have hd1 : v0.drew.heap.size = v0.heap.size := rfl
  replace BV := BV.drew
  replace BO := BO.drew
  replace hb := hb.drew
  refine wp_region_held_drew (S := fun w' => w'.cell? ⟨w.heap.size, 0, none⟩ = some (.int .i64 p) ∧ w'.cell? ⟨w.heap.size, 1, none⟩ = some (.int .i64 c) ∧ w'.cell? ⟨w.heap.size, 2, none⟩ = some (.int .i64 h) ∧ w'.cell? ⟨w.heap.size, 3, none⟩ = some (.int .i64 s)) (by kernel_rfl) ⟨BV.four.1, BV.four.2.1, BV.four.2.2.1, BV.four.2.2.2.1⟩ (fun hHeld => ?_)
  clear hHeld
  generalize v0.drew = vd1 at *
  have hHeld : vd1.cell? ⟨w.heap.size, 0, none⟩ = some (.int .i64 p) ∧ vd1.cell? ⟨w.heap.size, 1, none⟩ = some (.int .i64 c) ∧ vd1.cell? ⟨w.heap.size, 2, none⟩ = some (.int .i64 h) ∧ vd1.cell? ⟨w.heap.size, 3, none⟩ = some (.int .i64 s) := ⟨BV.four.1, BV.four.2.1, BV.four.2.2.1, BV.four.2.2.2.1⟩
  refine wpAnyH_take (i := 0) (oi := { dst := some 3, op := _, type := _, pos := _, after := _, guard := _ }) (v := ?_) rfl (by kernel_rfl) (by kernel_rfl) (by kernel_rfl) (fun _ _ _ h => h) (Or.inl ⟨by rfl, ?_⟩) (by assumption) ?_
  rotate_left
  · intro w hSw
    (try dsimp only at hSw)
    go_simp
    (try (with_reducible rfl))
  try simp only [Act.put, List.setIfInBounds_toArray, List.set_cons_zero, List.set_cons_succ]
  refine wpAnyH_take (i := 2) (oi := { dst := some 5, op := _, type := _, pos := _, after := _, guard := _ }) (v := ?_) rfl (by kernel_rfl) (by kernel_rfl) (by kernel_rfl) (fun _ _ _ h => h) (Or.inl ⟨by rfl, ?_⟩) (by assumption) ?_
  rotate_left
  · intro w hSw
    (try dsimp only at hSw)
    go_simp
    (try (with_reducible rfl))
  try simp only [Act.put, List.setIfInBounds_toArray, List.set_cons_zero, List.set_cons_succ]
  refine wpAnyH_ready (rs := [1]) (by kernel_rfl) (by simp) ?_
  refine AllReadyH.cons (o := { dst := some 4, op := _, type := _, pos := _, after := _, guard := _ }) rfl (fun K hK => ?_) AllReadyH.nil
  go_simp
  refine (HS.out _).mono ?_
  rintro e w2 ⟨b1, rfl, hb1, R1, hb2⟩
  replace BV := BV.below hb2
  replace BO := BO.below hb2
  have hz2 := hb2.size
  replace hb := chain hb hb2
  clear hb2
  have hl1 := R1.lt
  (try go_wp2_with fail)
  refine hK.out _ _ ⟨BV.four.1, BV.four.2.1, BV.four.2.2.1, BV.four.2.2.2.1⟩ (fun hHeld => ?_)
  clear hK K
  try simp only [Act.put, List.setIfInBounds_toArray, List.set_cons_zero, List.set_cons_succ]
  refine wpAnyH_ready (rs := [3]) (by kernel_rfl) (by simp) ?_
  refine AllReadyH.cons (o := { dst := some 6, op := _, type := _, pos := _, after := _, guard := _ }) rfl (fun K hK => ?_) AllReadyH.nil
  go_simp
  refine (HS.out _).mono ?_
  rintro e w3 ⟨b2, rfl, hb2, R2, hb3⟩
  replace BV := BV.below hb3
  replace BO := BO.below hb3
  replace R1 := R1.below hb3
  have hz3 := hb3.size
  replace hb := chain hb hb3
  clear hb3
  have hl2 := R2.lt
  (try go_wp2_with fail)
  refine hK.out _ _ ⟨BV.four.1, BV.four.2.1, BV.four.2.2.1, BV.four.2.2.2.1⟩ (fun hHeld => ?_)
  clear hK K
  try simp only [Act.put, List.setIfInBounds_toArray, List.set_cons_zero, List.set_cons_succ]
  refine wpAnyH_take (i := 4) (oi := { dst := some 7, op := _, type := _, pos := _, after := _, guard := _ }) (v := ?_) rfl (by kernel_rfl) (by kernel_rfl) (by kernel_rfl) (fun _ _ _ h => h) (Or.inl ⟨by rfl, ?_⟩) (by assumption) ?_
  rotate_left
  · intro w hSw
    (try dsimp only at hSw)
    go_simp
    (try (with_reducible rfl))
  try simp only [Act.put, List.setIfInBounds_toArray, List.set_cons_zero, List.set_cons_succ]
  refine wpAnyH_take (i := 5) (oi := { dst := some 8, op := _, type := _, pos := _, after := _, guard := _ }) (v := ?_) rfl (by kernel_rfl) (by kernel_rfl) (by kernel_rfl) (fun _ _ _ h => h) (Or.inl ⟨by rfl, ?_⟩) (by assumption) ?_
  rotate_left
  · intro w hSw
    (try dsimp only at hSw)
    go_simp
    (try (with_reducible rfl))
  try simp only [Act.put, List.setIfInBounds_toArray, List.set_cons_zero, List.set_cons_succ]
  refine wpAnyH_ready (rs := [6]) (by kernel_rfl) (by simp) ?_
  refine AllReadyH.cons (o := { dst := none, op := _, type := _, pos := _, after := _, guard := _ }) rfl (fun K hK => ?_) AllReadyH.nil
  have R1_ := R1
  obtain ⟨go0, go1, go2, go3, go4, go5, go6, go7, go8, gof, gol⟩ := BO.nine
  go_simp
  (try go_wp2_with fail)
  refine hK.out _ _ ⟨(BV.farG9 (B := w.heap.size + 1) (by omega) (.slice (some ⟨b1, 0, none⟩) n n) (.slice (some ⟨b2, 0, none⟩) n n) (.int .i64 0) (.int .i64 0) (.int .i64 0) (.int .i64 0) (.int .i64 0) (.int .i64 0) (.int .i64 0)).four.1, (BV.farG9 (B := w.heap.size + 1) (by omega) (.slice (some ⟨b1, 0, none⟩) n n) (.slice (some ⟨b2, 0, none⟩) n n) (.int .i64 0) (.int .i64 0) (.int .i64 0) (.int .i64 0) (.int .i64 0) (.int .i64 0) (.int .i64 0)).four.2.1, (BV.farG9 (B := w.heap.size + 1) (by omega) (.slice (some ⟨b1, 0, none⟩) n n) (.slice (some ⟨b2, 0, none⟩) n n) (.int .i64 0) (.int .i64 0) (.int .i64 0) (.int .i64 0) (.int .i64 0) (.int .i64 0) (.int .i64 0)).four.2.2.1, (BV.farG9 (B := w.heap.size + 1) (by omega) (.slice (some ⟨b1, 0, none⟩) n n) (.slice (some ⟨b2, 0, none⟩) n n) (.int .i64 0) (.int .i64 0) (.int .i64 0) (.int .i64 0) (.int .i64 0) (.int .i64 0) (.int .i64 0)).four.2.2.2.1⟩ (fun hHeld => ?_)
  clear hK K
  try simp only [Act.put, List.setIfInBounds_toArray, List.set_cons_zero, List.set_cons_succ]
  refine wpAnyH_done (by kernel_rfl) ?_ _
  clear hHeld
  go_wp2
  clear go0 go1 go2 go3 go4 go5 go6 go7 go8 gof gol
  have MO := BO.setG9 (.slice (some ⟨b1, 0, none⟩) n n) (.slice (some ⟨b2, 0, none⟩) n n) (.int .i64 0) (.int .i64 0) (.int .i64 0) (.int .i64 0) (.int .i64 0) (.int .i64 0) (.int .i64 0)
  have M1 := R1.farG9 (B := w.heap.size + 1) (by omega) (.slice (some ⟨b1, 0, none⟩) n n) (.slice (some ⟨b2, 0, none⟩) n n) (.int .i64 0) (.int .i64 0) (.int .i64 0) (.int .i64 0) (.int .i64 0) (.int .i64 0) (.int .i64 0)
  have M2 := R2.farG9 (B := w.heap.size + 1) (by omega) (.slice (some ⟨b1, 0, none⟩) n n) (.slice (some ⟨b2, 0, none⟩) n n) (.int .i64 0) (.int .i64 0) (.int .i64 0) (.int .i64 0) (.int .i64 0) (.int .i64 0) (.int .i64 0)
  have hM := Below.farG9 hb (B := w.heap.size + 1) (by omega) (.slice (some ⟨b1, 0, none⟩) n n) (.slice (some ⟨b2, 0, none⟩) n n) (.int .i64 0) (.int .i64 0) (.int .i64 0) (.int .i64 0) (.int .i64 0) (.int .i64 0) (.int .i64 0)
  clear BO R1 R2 hb BV R1_
  generalize (((((((((w3.setCell ⟨(w.heap.size + 1), 0, none⟩ (.slice (some ⟨b1, 0, none⟩) n n)).setCell ⟨(w.heap.size + 1), 1, none⟩ (.slice (some ⟨b2, 0, none⟩) n n)).setCell ⟨(w.heap.size + 1), 2, none⟩ (.int .i64 0)).setCell ⟨(w.heap.size + 1), 3, none⟩ (.int .i64 0)).setCell ⟨(w.heap.size + 1), 4, none⟩ (.int .i64 0)).setCell ⟨(w.heap.size + 1), 5, none⟩ (.int .i64 0)).setCell ⟨(w.heap.size + 1), 6, none⟩ (.int .i64 0)).setCell ⟨(w.heap.size + 1), 7, none⟩ (.int .i64 0)).setCell ⟨(w.heap.size + 1), 8, none⟩ (.int .i64 0)) = we at *
  obtain ⟨go0, go1, go2, go3, go4, go5, go6, go7, go8, gof, gol⟩ := MO.nine
  refine bodyPost_ret (v := .agg #[.slice (some ⟨b1, 0, none⟩) n n, .slice (some ⟨b2, 0, none⟩) n n, .int .i64 0, .int .i64 0, .int .i64 0, .int .i64 0, .int .i64 0, .int .i64 0, .int .i64 0]) (by simp [results, Try.results165, go_sem, go0, go1, go2, go3, go4, go5, go6, go7, go8]) rfl ?_
  exact ⟨b1, b2, rfl, by omega, by omega, M1, M2, hM⟩
/-- The fields of a game fit its phase. -/
def phB (p c h s : Int) (xs ys : List Int) (pl ra rb ph wi re tu : Int) : Bool :=
  if ph = 0 then decide ((⟨xs, ys, pl, ra, rb, ph, wi, re, tu⟩ : Gm) = openG p c h s) else if ph = 1 then goB xs ys wi re && ((ra == 0) && (rb == 0))
  else if ph = 2 then goB xs ys wi re && rlB s ra rb else if ph = 3 then endB p c h xs ys pl wi re && ((ra == 0) && (rb == 0)) else false
theorem startL_le (p c h s : Int) (p1 : p ≤ 24) : (startL p c h s).length ≤ 1048576 := by rw [startL_length]; omega
set_option maxRecDepth 8000 in
set_option maxHeartbeats 2000000 in
theorem fitsPhase_any (p c h s : Int) (a1 a2 : Option Addr) (n1 n2 c1 c2 : Nat) (xs ys : List Int) (w : World) (h1 : xs.length = n1) (h2 : ys.length = n2) (l1 : n1 ≤ 1048576) (l2 : n2 ≤ 1048576) (r1 : IRow w a1 xs) (r2 : IRow w a2 ys) (pl ra rb ph wi re tu : Int) (g : isB p c h s xs ys = true) (hg : hgB p c h s = true) (hpl : 0 ≤ pl ∧ pl ≤ 1) :
    Calls Try.prog 138 #[.agg #[.int .i64 p, .int .i64 c, .int .i64 h, .int .i64 s], .agg #[.slice a1 n1 c1, .slice a2 n2 c2, .int .i64 pl, .int .i64 ra, .int .i64 rb, .int .i64 ph, .int .i64 wi, .int .i64 re, .int .i64 tu]] w fun e w' => e = .returned (.bool (phB p c h s xs ys pl ra rb ph wi re tu)) ∧ Below w.heap.size w w' := by
  have hp24 : p ≤ 24 := by unfold hgB at hg; simp only [Bool.and_eq_true] at hg; exact (vB_iff.1 hg.1).2.1
  have hB := fun (W : World) => beginning_any p c h s W hg
  have hE : ∀ (b1 b2 : Nat) (W : World), IRow W a1 xs → IRow W a2 ys → Row W b1 (openG p c h s).xs → Row W b2 (openG p c h s).ys → Calls Try.prog 164 #[.agg #[.slice a1 n1 c1, .slice a2 n2 c2, .int .i64 pl, .int .i64 ra, .int .i64 rb, .int .i64 ph, .int .i64 wi, .int .i64 re, .int .i64 tu], .agg #[.slice (some ⟨b1, 0, none⟩) (openG p c h s).xs.length (openG p c h s).xs.length, .slice (some ⟨b2, 0, none⟩) (openG p c h s).ys.length (openG p c h s).ys.length, .int .i64 0, .int .i64 0, .int .i64 0, .int .i64 0, .int .i64 0, .int .i64 0, .int .i64 0]] W fun e w' => e = .returned (.bool (decide ((⟨xs, ys, pl, ra, rb, ph, wi, re, tu⟩ : Gm) = openG p c h s))) ∧ Below W.heap.size W w' := fun b1 b2 W r1 r2 R1 R2 => by
    subst h1 h2
    exact gameEquals_any ⟨xs, ys, pl, ra, rb, ph, wi, re, tu⟩ (openG p c h s) a1 a2 (some ⟨b1, 0, none⟩) (some ⟨b2, 0, none⟩) c1 c2 _ _ W l1 l2 (startL_le p c h s hp24) (startL_le p c h s hp24) r1 r2 R1.irow R2.irow
  have hGo := fun (W : World) (r1 : IRow W a1 xs) (r2 : IRow W a2 ys) => goesOn_any p c h s a1 a2 n1 n2 c1 c2 xs ys W h1 h2 l1 l2 r1 r2 pl ra rb ph wi re tu g
  have hEn := fun (W : World) (r1 : IRow W a1 xs) (r2 : IRow W a2 ys) => hasEnded_any p c h s a1 a2 n1 n2 c1 c2 xs ys W h1 h2 l1 l2 r1 r2 pl ra rb ph wi re tu g hpl
  have hRo := fun (W : World) => hasRoll_any p c h s ra rb W
  unfold phB
  obtain ⟨Q, hQ⟩ : ∃ Q, decide ((⟨xs, ys, pl, ra, rb, ph, wi, re, tu⟩ : Gm) = openG p c h s) = Q := ⟨_, rfl⟩
  obtain ⟨go, hgo⟩ : ∃ q, goB xs ys wi re = q := ⟨_, rfl⟩
  obtain ⟨en, hen⟩ : ∃ q, endB p c h xs ys pl wi re = q := ⟨_, rfl⟩
  obtain ⟨ro, hro⟩ : ∃ q, rlB s ra rb = q := ⟨_, rfl⟩
  rw [hQ] at hE ⊢
  rw [hgo] at hGo ⊢
  rw [hen] at hEn ⊢
  rw [hro] at hRo ⊢
  obtain ⟨H, hH⟩ : ∃ H, openG p c h s = H := ⟨_, rfl⟩
  rw [hH] at hE hB
  have HB := Lib.hid hB
  have HE := Lib.hid hE
  have HGO := Lib.hid hGo
  have HEN := Lib.hid hEn
  have HRO := Lib.hid hRo
  have hb1_ := h1
  clear hB hE hGo hEn hRo hQ hgo hen hro hH hg hpl g hp24
  obtain ⟨BV, BG, hb, hz⟩ := two_new' w #[.int .i64 p, .int .i64 c, .int .i64 h, .int .i64 s] #[.slice a1 n1 c1, .slice a2 n2 c2, .int .i64 pl, .int .i64 ra, .int .i64 rb, .int .i64 ph, .int .i64 wi, .int .i64 re, .int .i64 tu] 32 70
  have hr1 := r1.below hb
  have hr2 := r2.below hb
  clear r1 r2
  have r1 := hr1
  have r2 := hr2
  clear hr1 hr2
  by_cases q0 : ph = 0
  · have k0 : (ph == 0) = true := by rw [beq_iff_eq]; exact q0
    rw [if_pos q0]
    clear q0
    go_enter Try.func138, Try.ntmps138
    obtain ⟨x0, x1, x2, x3, xf, xl⟩ := BV.four
    obtain ⟨ga0, ga1, ga2, ga3, ga4, ga5, ga6, ga7, ga8, gaf, gal⟩ := BG.nine
    go_wp2_with fail
    clear x0 x1 x2 x3 xf xl
    clear ga0 ga1 ga2 ga3 ga4 ga5 ga6 ga7 ga8 gaf gal
    generalize ((w.alloc (.cells #[.int .i64 p, .int .i64 c, .int .i64 h, .int .i64 s] 32)).alloc (.cells #[.slice a1 n1 c1, .slice a2 n2 c2, .int .i64 pl, .int .i64 ra, .int .i64 rb, .int .i64 ph, .int .i64 wi, .int .i64 re, .int .i64 tu] 70)) = v0 at *
    obtain ⟨q0_BV, q1_BV, q2_BV, q3_BV, qf_BV, ql_BV⟩ := BV.four
    obtain ⟨q0_BG, q1_BG, q2_BG, q3_BG, q4_BG, q5_BG, q6_BG, q7_BG, q8_BG, qf_BG, ql_BG⟩ := BG.nine
    go_wp2_with fail
    clear q0_BV q1_BV q2_BV q3_BV qf_BV ql_BV
    clear q0_BG q1_BG q2_BG q3_BG q4_BG q5_BG q6_BG q7_BG q8_BG qf_BG ql_BG
    have hd1 : v0.drew.heap.size = v0.heap.size := rfl
    replace BV := BV.drew
    replace BG := BG.drew
    replace r1 := r1.drew
    replace r2 := r2.drew
    replace hb := hb.drew
    refine wp_region_held_drew (S := fun w' => w'.cell? ⟨w.heap.size, 0, none⟩ = some (.int .i64 p) ∧ w'.cell? ⟨w.heap.size, 1, none⟩ = some (.int .i64 c) ∧ w'.cell? ⟨w.heap.size, 2, none⟩ = some (.int .i64 h) ∧ w'.cell? ⟨w.heap.size, 3, none⟩ = some (.int .i64 s) ∧ w'.cell? ⟨(w.heap.size + 1), 0, none⟩ = some (.slice a1 n1 c1) ∧ w'.cell? ⟨(w.heap.size + 1), 1, none⟩ = some (.slice a2 n2 c2) ∧ w'.cell? ⟨(w.heap.size + 1), 2, none⟩ = some (.int .i64 pl) ∧ w'.cell? ⟨(w.heap.size + 1), 3, none⟩ = some (.int .i64 ra) ∧ w'.cell? ⟨(w.heap.size + 1), 4, none⟩ = some (.int .i64 rb) ∧ w'.cell? ⟨(w.heap.size + 1), 5, none⟩ = some (.int .i64 ph) ∧ w'.cell? ⟨(w.heap.size + 1), 6, none⟩ = some (.int .i64 wi) ∧ w'.cell? ⟨(w.heap.size + 1), 7, none⟩ = some (.int .i64 re) ∧ w'.cell? ⟨(w.heap.size + 1), 8, none⟩ = some (.int .i64 tu)) (by kernel_rfl) ⟨BV.four.1, BV.four.2.1, BV.four.2.2.1, BV.four.2.2.2.1, BG.nine.1, BG.nine.2.1, BG.nine.2.2.1, BG.nine.2.2.2.1, BG.nine.2.2.2.2.1, BG.nine.2.2.2.2.2.1, BG.nine.2.2.2.2.2.2.1, BG.nine.2.2.2.2.2.2.2.1, BG.nine.2.2.2.2.2.2.2.2.1⟩ (fun hHeld => ?_)
    clear hHeld
    generalize v0.drew = vd1 at *
    have hHeld : vd1.cell? ⟨w.heap.size, 0, none⟩ = some (.int .i64 p) ∧ vd1.cell? ⟨w.heap.size, 1, none⟩ = some (.int .i64 c) ∧ vd1.cell? ⟨w.heap.size, 2, none⟩ = some (.int .i64 h) ∧ vd1.cell? ⟨w.heap.size, 3, none⟩ = some (.int .i64 s) ∧ vd1.cell? ⟨(w.heap.size + 1), 0, none⟩ = some (.slice a1 n1 c1) ∧ vd1.cell? ⟨(w.heap.size + 1), 1, none⟩ = some (.slice a2 n2 c2) ∧ vd1.cell? ⟨(w.heap.size + 1), 2, none⟩ = some (.int .i64 pl) ∧ vd1.cell? ⟨(w.heap.size + 1), 3, none⟩ = some (.int .i64 ra) ∧ vd1.cell? ⟨(w.heap.size + 1), 4, none⟩ = some (.int .i64 rb) ∧ vd1.cell? ⟨(w.heap.size + 1), 5, none⟩ = some (.int .i64 ph) ∧ vd1.cell? ⟨(w.heap.size + 1), 6, none⟩ = some (.int .i64 wi) ∧ vd1.cell? ⟨(w.heap.size + 1), 7, none⟩ = some (.int .i64 re) ∧ vd1.cell? ⟨(w.heap.size + 1), 8, none⟩ = some (.int .i64 tu) := ⟨BV.four.1, BV.four.2.1, BV.four.2.2.1, BV.four.2.2.2.1, BG.nine.1, BG.nine.2.1, BG.nine.2.2.1, BG.nine.2.2.2.1, BG.nine.2.2.2.2.1, BG.nine.2.2.2.2.2.1, BG.nine.2.2.2.2.2.2.1, BG.nine.2.2.2.2.2.2.2.1, BG.nine.2.2.2.2.2.2.2.2.1⟩
    refine wpAnyH_take (i := 0) (oi := { dst := some 9, op := _, type := _, pos := _, after := _, guard := _ }) (v := ?_) rfl (by kernel_rfl) (by kernel_rfl) (by kernel_rfl) (fun _ _ _ h => h) (Or.inl ⟨by rfl, ?_⟩) (by assumption) ?_
    rotate_left
    · intro w hSw
      (try dsimp only at hSw)
      go_simp
      (try (with_reducible rfl))
    try simp only [Act.put, List.setIfInBounds_toArray, List.set_cons_zero, List.set_cons_succ]
    refine wpAnyH_take (i := 1) (oi := { dst := some 10, op := _, type := _, pos := _, after := _, guard := _ }) (v := ?_) rfl (by kernel_rfl) (by kernel_rfl) (by kernel_rfl) (fun _ _ _ h => h) (Or.inl ⟨by rfl, ?_⟩) (by assumption) ?_
    rotate_left
    · intro w hSw
      (try dsimp only at hSw)
      go_simp
      (try (with_reducible rfl))
    try simp only [Act.put, List.setIfInBounds_toArray, List.set_cons_zero, List.set_cons_succ]
    refine wpAnyH_ready (rs := [2]) (by kernel_rfl) (by simp) ?_
    refine AllReadyH.cons (o := { dst := some 11, op := _, type := _, pos := _, after := _, guard := _ }) rfl (fun K hK => ?_) AllReadyH.nil
    go_simp
    refine (HB.out _).mono ?_
    rintro e w2 ⟨b1, b2, rfl, hq1, hq2, R1, R2, hb2⟩
    replace BV := BV.below hb2
    replace BG := BG.below hb2
    replace r1 := r1.below hb2
    replace r2 := r2.below hb2
    have hz2 := hb2.size
    replace hb := chain hb hb2
    clear hb2
    (try go_wp2_with fail)
    refine hK.out _ _ ⟨BV.four.1, BV.four.2.1, BV.four.2.2.1, BV.four.2.2.2.1, BG.nine.1, BG.nine.2.1, BG.nine.2.2.1, BG.nine.2.2.2.1, BG.nine.2.2.2.2.1, BG.nine.2.2.2.2.2.1, BG.nine.2.2.2.2.2.2.1, BG.nine.2.2.2.2.2.2.2.1, BG.nine.2.2.2.2.2.2.2.2.1⟩ (fun hHeld => ?_)
    clear hK K
    try simp only [Act.put, List.setIfInBounds_toArray, List.set_cons_zero, List.set_cons_succ]
    refine wpAnyH_ready (rs := [3]) (by kernel_rfl) (by simp) ?_
    refine AllReadyH.cons (o := { dst := some 12, op := _, type := _, pos := _, after := _, guard := _ }) rfl (fun K hK => ?_) AllReadyH.nil
    go_simp
    refine (HE.out b1 b2 _ r1 r2 R1 R2).mono ?_
    rintro e w3 ⟨rfl, hb3⟩
    replace BV := BV.below hb3
    replace BG := BG.below hb3
    replace r1 := r1.below hb3
    replace r2 := r2.below hb3
    replace R1 := R1.below hb3
    replace R2 := R2.below hb3
    have hz3 := hb3.size
    replace hb := chain hb hb3
    clear hb3
    (try go_wp2_with fail)
    refine hK.out _ _ ⟨BV.four.1, BV.four.2.1, BV.four.2.2.1, BV.four.2.2.2.1, BG.nine.1, BG.nine.2.1, BG.nine.2.2.1, BG.nine.2.2.2.1, BG.nine.2.2.2.2.1, BG.nine.2.2.2.2.2.1, BG.nine.2.2.2.2.2.2.1, BG.nine.2.2.2.2.2.2.2.1, BG.nine.2.2.2.2.2.2.2.2.1⟩ (fun hHeld => ?_)
    clear hK K
    try simp only [Act.put, List.setIfInBounds_toArray, List.set_cons_zero, List.set_cons_succ]
    refine wpAnyH_take (i := 4) (oi := { dst := some 4, op := _, type := _, pos := _, after := _, guard := _ }) (v := ?_) rfl (by kernel_rfl) (by kernel_rfl) (by kernel_rfl) (fun _ _ _ h => h) (Or.inl ⟨by rfl, ?_⟩) (by assumption) ?_
    rotate_left
    · intro w hSw
      (try dsimp only at hSw)
      go_simp
      (try (with_reducible rfl))
    try simp only [Act.put, List.setIfInBounds_toArray, List.set_cons_zero, List.set_cons_succ]
    refine wpAnyH_done (by kernel_rfl) ?_ _
    clear hHeld
    obtain ⟨q0_BV, q1_BV, q2_BV, q3_BV, qf_BV, ql_BV⟩ := BV.four
    obtain ⟨q0_BG, q1_BG, q2_BG, q3_BG, q4_BG, q5_BG, q6_BG, q7_BG, q8_BG, qf_BG, ql_BG⟩ := BG.nine
    go_wp2_with fail
    go_ret
    exact ⟨rfl, hb⟩
  · have k0 : (ph == 0) = false := by rw [beq_eq_false_iff_ne]; exact q0
    rw [if_neg q0]
    clear q0
    by_cases q1 : ph = 1
    · have k1 : (ph == 1) = true := by rw [beq_iff_eq]; exact q1
      rw [if_pos q1]
      clear q1
      cases go with
      | false =>
        rw [Bool.false_and]
        go_enter Try.func138, Try.ntmps138
        obtain ⟨x0, x1, x2, x3, xf, xl⟩ := BV.four
        obtain ⟨ga0, ga1, ga2, ga3, ga4, ga5, ga6, ga7, ga8, gaf, gal⟩ := BG.nine
        go_wp2_with fail
        clear x0 x1 x2 x3 xf xl
        clear ga0 ga1 ga2 ga3 ga4 ga5 ga6 ga7 ga8 gaf gal
        generalize ((w.alloc (.cells #[.int .i64 p, .int .i64 c, .int .i64 h, .int .i64 s] 32)).alloc (.cells #[.slice a1 n1 c1, .slice a2 n2 c2, .int .i64 pl, .int .i64 ra, .int .i64 rb, .int .i64 ph, .int .i64 wi, .int .i64 re, .int .i64 tu] 70)) = v0 at *
        obtain ⟨q0_BV, q1_BV, q2_BV, q3_BV, qf_BV, ql_BV⟩ := BV.four
        obtain ⟨q0_BG, q1_BG, q2_BG, q3_BG, q4_BG, q5_BG, q6_BG, q7_BG, q8_BG, qf_BG, ql_BG⟩ := BG.nine
        go_wp2_with fail
        clear q0_BV q1_BV q2_BV q3_BV qf_BV ql_BV
        clear q0_BG q1_BG q2_BG q3_BG q4_BG q5_BG q6_BG q7_BG q8_BG qf_BG ql_BG
        refine (HGO.out _ r1 r2).mono ?_
        rintro e w1 ⟨rfl, hb1⟩
        replace BV := BV.below hb1
        replace BG := BG.below hb1
        replace r1 := r1.below hb1
        replace r2 := r2.below hb1
        have hz1 := hb1.size
        replace hb := chain hb hb1
        clear hb1
        obtain ⟨q0_BV, q1_BV, q2_BV, q3_BV, qf_BV, ql_BV⟩ := BV.four
        obtain ⟨q0_BG, q1_BG, q2_BG, q3_BG, q4_BG, q5_BG, q6_BG, q7_BG, q8_BG, qf_BG, ql_BG⟩ := BG.nine
        go_wp2_with fail
        go_ret
        exact ⟨rfl, hb⟩
      | true =>
        rw [Bool.true_and]
        by_cases ea : ra = 0
        · have fa : (ra == 0) = true := by rw [beq_iff_eq]; exact ea
          rw [fa, Bool.true_and]
          clear ea
          by_cases eb : rb = 0
          · have fb : (rb == 0) = true := by rw [beq_iff_eq]; exact eb
            rw [fb]
            clear eb
            go_enter Try.func138, Try.ntmps138
            obtain ⟨x0, x1, x2, x3, xf, xl⟩ := BV.four
            obtain ⟨ga0, ga1, ga2, ga3, ga4, ga5, ga6, ga7, ga8, gaf, gal⟩ := BG.nine
            go_wp2_with fail
            clear x0 x1 x2 x3 xf xl
            clear ga0 ga1 ga2 ga3 ga4 ga5 ga6 ga7 ga8 gaf gal
            generalize ((w.alloc (.cells #[.int .i64 p, .int .i64 c, .int .i64 h, .int .i64 s] 32)).alloc (.cells #[.slice a1 n1 c1, .slice a2 n2 c2, .int .i64 pl, .int .i64 ra, .int .i64 rb, .int .i64 ph, .int .i64 wi, .int .i64 re, .int .i64 tu] 70)) = v0 at *
            obtain ⟨q0_BV, q1_BV, q2_BV, q3_BV, qf_BV, ql_BV⟩ := BV.four
            obtain ⟨q0_BG, q1_BG, q2_BG, q3_BG, q4_BG, q5_BG, q6_BG, q7_BG, q8_BG, qf_BG, ql_BG⟩ := BG.nine
            go_wp2_with fail
            clear q0_BV q1_BV q2_BV q3_BV qf_BV ql_BV
            clear q0_BG q1_BG q2_BG q3_BG q4_BG q5_BG q6_BG q7_BG q8_BG qf_BG ql_BG
            refine (HGO.out _ r1 r2).mono ?_
            rintro e w1 ⟨rfl, hb1⟩
            replace BV := BV.below hb1
            replace BG := BG.below hb1
            replace r1 := r1.below hb1
            replace r2 := r2.below hb1
            have hz1 := hb1.size
            replace hb := chain hb hb1
            clear hb1
            obtain ⟨q0_BV, q1_BV, q2_BV, q3_BV, qf_BV, ql_BV⟩ := BV.four
            obtain ⟨q0_BG, q1_BG, q2_BG, q3_BG, q4_BG, q5_BG, q6_BG, q7_BG, q8_BG, qf_BG, ql_BG⟩ := BG.nine
            go_wp2_with fail
            go_ret
            exact ⟨rfl, hb⟩
          · have fb : (rb == 0) = false := by rw [beq_eq_false_iff_ne]; exact eb
            rw [fb]
            clear eb
            go_enter Try.func138, Try.ntmps138
            obtain ⟨x0, x1, x2, x3, xf, xl⟩ := BV.four
            obtain ⟨ga0, ga1, ga2, ga3, ga4, ga5, ga6, ga7, ga8, gaf, gal⟩ := BG.nine
            go_wp2_with fail
            clear x0 x1 x2 x3 xf xl
            clear ga0 ga1 ga2 ga3 ga4 ga5 ga6 ga7 ga8 gaf gal
            generalize ((w.alloc (.cells #[.int .i64 p, .int .i64 c, .int .i64 h, .int .i64 s] 32)).alloc (.cells #[.slice a1 n1 c1, .slice a2 n2 c2, .int .i64 pl, .int .i64 ra, .int .i64 rb, .int .i64 ph, .int .i64 wi, .int .i64 re, .int .i64 tu] 70)) = v0 at *
            obtain ⟨q0_BV, q1_BV, q2_BV, q3_BV, qf_BV, ql_BV⟩ := BV.four
            obtain ⟨q0_BG, q1_BG, q2_BG, q3_BG, q4_BG, q5_BG, q6_BG, q7_BG, q8_BG, qf_BG, ql_BG⟩ := BG.nine
            go_wp2_with fail
            clear q0_BV q1_BV q2_BV q3_BV qf_BV ql_BV
            clear q0_BG q1_BG q2_BG q3_BG q4_BG q5_BG q6_BG q7_BG q8_BG qf_BG ql_BG
            refine (HGO.out _ r1 r2).mono ?_
            rintro e w1 ⟨rfl, hb1⟩
            replace BV := BV.below hb1
            replace BG := BG.below hb1
            replace r1 := r1.below hb1
            replace r2 := r2.below hb1
            have hz1 := hb1.size
            replace hb := chain hb hb1
            clear hb1
            obtain ⟨q0_BV, q1_BV, q2_BV, q3_BV, qf_BV, ql_BV⟩ := BV.four
            obtain ⟨q0_BG, q1_BG, q2_BG, q3_BG, q4_BG, q5_BG, q6_BG, q7_BG, q8_BG, qf_BG, ql_BG⟩ := BG.nine
            go_wp2_with fail
            go_ret
            exact ⟨rfl, hb⟩
        · have fa : (ra == 0) = false := by rw [beq_eq_false_iff_ne]; exact ea
          rw [fa, Bool.false_and]
          clear ea
          go_enter Try.func138, Try.ntmps138
          obtain ⟨x0, x1, x2, x3, xf, xl⟩ := BV.four
          obtain ⟨ga0, ga1, ga2, ga3, ga4, ga5, ga6, ga7, ga8, gaf, gal⟩ := BG.nine
          go_wp2_with fail
          clear x0 x1 x2 x3 xf xl
          clear ga0 ga1 ga2 ga3 ga4 ga5 ga6 ga7 ga8 gaf gal
          generalize ((w.alloc (.cells #[.int .i64 p, .int .i64 c, .int .i64 h, .int .i64 s] 32)).alloc (.cells #[.slice a1 n1 c1, .slice a2 n2 c2, .int .i64 pl, .int .i64 ra, .int .i64 rb, .int .i64 ph, .int .i64 wi, .int .i64 re, .int .i64 tu] 70)) = v0 at *
          obtain ⟨q0_BV, q1_BV, q2_BV, q3_BV, qf_BV, ql_BV⟩ := BV.four
          obtain ⟨q0_BG, q1_BG, q2_BG, q3_BG, q4_BG, q5_BG, q6_BG, q7_BG, q8_BG, qf_BG, ql_BG⟩ := BG.nine
          go_wp2_with fail
          clear q0_BV q1_BV q2_BV q3_BV qf_BV ql_BV
          clear q0_BG q1_BG q2_BG q3_BG q4_BG q5_BG q6_BG q7_BG q8_BG qf_BG ql_BG
          refine (HGO.out _ r1 r2).mono ?_
          rintro e w1 ⟨rfl, hb1⟩
          replace BV := BV.below hb1
          replace BG := BG.below hb1
          replace r1 := r1.below hb1
          replace r2 := r2.below hb1
          have hz1 := hb1.size
          replace hb := chain hb hb1
          clear hb1
          obtain ⟨q0_BV, q1_BV, q2_BV, q3_BV, qf_BV, ql_BV⟩ := BV.four
          obtain ⟨q0_BG, q1_BG, q2_BG, q3_BG, q4_BG, q5_BG, q6_BG, q7_BG, q8_BG, qf_BG, ql_BG⟩ := BG.nine
          go_wp2_with fail
          go_ret
          exact ⟨rfl, hb⟩
    · have k1 : (ph == 1) = false := by rw [beq_eq_false_iff_ne]; exact q1
      rw [if_neg q1]
      clear q1
      by_cases q2 : ph = 2
      · have k2 : (ph == 2) = true := by rw [beq_iff_eq]; exact q2
        rw [if_pos q2]
        clear q2
        cases go with
        | false =>
          rw [Bool.false_and]
          go_enter Try.func138, Try.ntmps138
          obtain ⟨x0, x1, x2, x3, xf, xl⟩ := BV.four
          obtain ⟨ga0, ga1, ga2, ga3, ga4, ga5, ga6, ga7, ga8, gaf, gal⟩ := BG.nine
          go_wp2_with fail
          clear x0 x1 x2 x3 xf xl
          clear ga0 ga1 ga2 ga3 ga4 ga5 ga6 ga7 ga8 gaf gal
          generalize ((w.alloc (.cells #[.int .i64 p, .int .i64 c, .int .i64 h, .int .i64 s] 32)).alloc (.cells #[.slice a1 n1 c1, .slice a2 n2 c2, .int .i64 pl, .int .i64 ra, .int .i64 rb, .int .i64 ph, .int .i64 wi, .int .i64 re, .int .i64 tu] 70)) = v0 at *
          obtain ⟨q0_BV, q1_BV, q2_BV, q3_BV, qf_BV, ql_BV⟩ := BV.four
          obtain ⟨q0_BG, q1_BG, q2_BG, q3_BG, q4_BG, q5_BG, q6_BG, q7_BG, q8_BG, qf_BG, ql_BG⟩ := BG.nine
          go_wp2_with fail
          clear q0_BV q1_BV q2_BV q3_BV qf_BV ql_BV
          clear q0_BG q1_BG q2_BG q3_BG q4_BG q5_BG q6_BG q7_BG q8_BG qf_BG ql_BG
          refine (HGO.out _ r1 r2).mono ?_
          rintro e w1 ⟨rfl, hb1⟩
          replace BV := BV.below hb1
          replace BG := BG.below hb1
          replace r1 := r1.below hb1
          replace r2 := r2.below hb1
          have hz1 := hb1.size
          replace hb := chain hb hb1
          clear hb1
          obtain ⟨q0_BV, q1_BV, q2_BV, q3_BV, qf_BV, ql_BV⟩ := BV.four
          obtain ⟨q0_BG, q1_BG, q2_BG, q3_BG, q4_BG, q5_BG, q6_BG, q7_BG, q8_BG, qf_BG, ql_BG⟩ := BG.nine
          go_wp2_with fail
          go_ret
          exact ⟨rfl, hb⟩
        | true =>
          rw [Bool.true_and]
          go_enter Try.func138, Try.ntmps138
          obtain ⟨x0, x1, x2, x3, xf, xl⟩ := BV.four
          obtain ⟨ga0, ga1, ga2, ga3, ga4, ga5, ga6, ga7, ga8, gaf, gal⟩ := BG.nine
          go_wp2_with fail
          clear x0 x1 x2 x3 xf xl
          clear ga0 ga1 ga2 ga3 ga4 ga5 ga6 ga7 ga8 gaf gal
          generalize ((w.alloc (.cells #[.int .i64 p, .int .i64 c, .int .i64 h, .int .i64 s] 32)).alloc (.cells #[.slice a1 n1 c1, .slice a2 n2 c2, .int .i64 pl, .int .i64 ra, .int .i64 rb, .int .i64 ph, .int .i64 wi, .int .i64 re, .int .i64 tu] 70)) = v0 at *
          obtain ⟨q0_BV, q1_BV, q2_BV, q3_BV, qf_BV, ql_BV⟩ := BV.four
          obtain ⟨q0_BG, q1_BG, q2_BG, q3_BG, q4_BG, q5_BG, q6_BG, q7_BG, q8_BG, qf_BG, ql_BG⟩ := BG.nine
          go_wp2_with fail
          clear q0_BV q1_BV q2_BV q3_BV qf_BV ql_BV
          clear q0_BG q1_BG q2_BG q3_BG q4_BG q5_BG q6_BG q7_BG q8_BG qf_BG ql_BG
          refine (HGO.out _ r1 r2).mono ?_
          rintro e w1 ⟨rfl, hb1⟩
          replace BV := BV.below hb1
          replace BG := BG.below hb1
          replace r1 := r1.below hb1
          replace r2 := r2.below hb1
          have hz1 := hb1.size
          replace hb := chain hb hb1
          clear hb1
          obtain ⟨q0_BV, q1_BV, q2_BV, q3_BV, qf_BV, ql_BV⟩ := BV.four
          obtain ⟨q0_BG, q1_BG, q2_BG, q3_BG, q4_BG, q5_BG, q6_BG, q7_BG, q8_BG, qf_BG, ql_BG⟩ := BG.nine
          go_wp2_with fail
          clear q0_BV q1_BV q2_BV q3_BV qf_BV ql_BV
          clear q0_BG q1_BG q2_BG q3_BG q4_BG q5_BG q6_BG q7_BG q8_BG qf_BG ql_BG
          refine (HRO.out _).mono ?_
          rintro e w2 ⟨rfl, hb2⟩
          replace BV := BV.below hb2
          replace BG := BG.below hb2
          replace r1 := r1.below hb2
          replace r2 := r2.below hb2
          have hz2 := hb2.size
          replace hb := chain hb hb2
          clear hb2
          obtain ⟨q0_BV, q1_BV, q2_BV, q3_BV, qf_BV, ql_BV⟩ := BV.four
          obtain ⟨q0_BG, q1_BG, q2_BG, q3_BG, q4_BG, q5_BG, q6_BG, q7_BG, q8_BG, qf_BG, ql_BG⟩ := BG.nine
          go_wp2_with fail
          go_ret
          exact ⟨rfl, hb⟩
      · have k2 : (ph == 2) = false := by rw [beq_eq_false_iff_ne]; exact q2
        rw [if_neg q2]
        clear q2
        by_cases q3 : ph = 3
        · have k3 : (ph == 3) = true := by rw [beq_iff_eq]; exact q3
          rw [if_pos q3]
          clear q3
          cases en with
          | false =>
            rw [Bool.false_and]
            go_enter Try.func138, Try.ntmps138
            obtain ⟨x0, x1, x2, x3, xf, xl⟩ := BV.four
            obtain ⟨ga0, ga1, ga2, ga3, ga4, ga5, ga6, ga7, ga8, gaf, gal⟩ := BG.nine
            go_wp2_with fail
            clear x0 x1 x2 x3 xf xl
            clear ga0 ga1 ga2 ga3 ga4 ga5 ga6 ga7 ga8 gaf gal
            generalize ((w.alloc (.cells #[.int .i64 p, .int .i64 c, .int .i64 h, .int .i64 s] 32)).alloc (.cells #[.slice a1 n1 c1, .slice a2 n2 c2, .int .i64 pl, .int .i64 ra, .int .i64 rb, .int .i64 ph, .int .i64 wi, .int .i64 re, .int .i64 tu] 70)) = v0 at *
            obtain ⟨q0_BV, q1_BV, q2_BV, q3_BV, qf_BV, ql_BV⟩ := BV.four
            obtain ⟨q0_BG, q1_BG, q2_BG, q3_BG, q4_BG, q5_BG, q6_BG, q7_BG, q8_BG, qf_BG, ql_BG⟩ := BG.nine
            go_wp2_with fail
            clear q0_BV q1_BV q2_BV q3_BV qf_BV ql_BV
            clear q0_BG q1_BG q2_BG q3_BG q4_BG q5_BG q6_BG q7_BG q8_BG qf_BG ql_BG
            refine (HEN.out _ r1 r2).mono ?_
            rintro e w1 ⟨rfl, hb1⟩
            replace BV := BV.below hb1
            replace BG := BG.below hb1
            replace r1 := r1.below hb1
            replace r2 := r2.below hb1
            have hz1 := hb1.size
            replace hb := chain hb hb1
            clear hb1
            obtain ⟨q0_BV, q1_BV, q2_BV, q3_BV, qf_BV, ql_BV⟩ := BV.four
            obtain ⟨q0_BG, q1_BG, q2_BG, q3_BG, q4_BG, q5_BG, q6_BG, q7_BG, q8_BG, qf_BG, ql_BG⟩ := BG.nine
            go_wp2_with fail
            go_ret
            exact ⟨rfl, hb⟩
          | true =>
            rw [Bool.true_and]
            by_cases ea : ra = 0
            · have fa : (ra == 0) = true := by rw [beq_iff_eq]; exact ea
              rw [fa, Bool.true_and]
              clear ea
              by_cases eb : rb = 0
              · have fb : (rb == 0) = true := by rw [beq_iff_eq]; exact eb
                rw [fb]
                clear eb
                go_enter Try.func138, Try.ntmps138
                obtain ⟨x0, x1, x2, x3, xf, xl⟩ := BV.four
                obtain ⟨ga0, ga1, ga2, ga3, ga4, ga5, ga6, ga7, ga8, gaf, gal⟩ := BG.nine
                go_wp2_with fail
                clear x0 x1 x2 x3 xf xl
                clear ga0 ga1 ga2 ga3 ga4 ga5 ga6 ga7 ga8 gaf gal
                generalize ((w.alloc (.cells #[.int .i64 p, .int .i64 c, .int .i64 h, .int .i64 s] 32)).alloc (.cells #[.slice a1 n1 c1, .slice a2 n2 c2, .int .i64 pl, .int .i64 ra, .int .i64 rb, .int .i64 ph, .int .i64 wi, .int .i64 re, .int .i64 tu] 70)) = v0 at *
                obtain ⟨q0_BV, q1_BV, q2_BV, q3_BV, qf_BV, ql_BV⟩ := BV.four
                obtain ⟨q0_BG, q1_BG, q2_BG, q3_BG, q4_BG, q5_BG, q6_BG, q7_BG, q8_BG, qf_BG, ql_BG⟩ := BG.nine
                go_wp2_with fail
                clear q0_BV q1_BV q2_BV q3_BV qf_BV ql_BV
                clear q0_BG q1_BG q2_BG q3_BG q4_BG q5_BG q6_BG q7_BG q8_BG qf_BG ql_BG
                refine (HEN.out _ r1 r2).mono ?_
                rintro e w1 ⟨rfl, hb1⟩
                replace BV := BV.below hb1
                replace BG := BG.below hb1
                replace r1 := r1.below hb1
                replace r2 := r2.below hb1
                have hz1 := hb1.size
                replace hb := chain hb hb1
                clear hb1
                obtain ⟨q0_BV, q1_BV, q2_BV, q3_BV, qf_BV, ql_BV⟩ := BV.four
                obtain ⟨q0_BG, q1_BG, q2_BG, q3_BG, q4_BG, q5_BG, q6_BG, q7_BG, q8_BG, qf_BG, ql_BG⟩ := BG.nine
                go_wp2_with fail
                go_ret
                exact ⟨rfl, hb⟩
              · have fb : (rb == 0) = false := by rw [beq_eq_false_iff_ne]; exact eb
                rw [fb]
                clear eb
                go_enter Try.func138, Try.ntmps138
                obtain ⟨x0, x1, x2, x3, xf, xl⟩ := BV.four
                obtain ⟨ga0, ga1, ga2, ga3, ga4, ga5, ga6, ga7, ga8, gaf, gal⟩ := BG.nine
                go_wp2_with fail
                clear x0 x1 x2 x3 xf xl
                clear ga0 ga1 ga2 ga3 ga4 ga5 ga6 ga7 ga8 gaf gal
                generalize ((w.alloc (.cells #[.int .i64 p, .int .i64 c, .int .i64 h, .int .i64 s] 32)).alloc (.cells #[.slice a1 n1 c1, .slice a2 n2 c2, .int .i64 pl, .int .i64 ra, .int .i64 rb, .int .i64 ph, .int .i64 wi, .int .i64 re, .int .i64 tu] 70)) = v0 at *
                obtain ⟨q0_BV, q1_BV, q2_BV, q3_BV, qf_BV, ql_BV⟩ := BV.four
                obtain ⟨q0_BG, q1_BG, q2_BG, q3_BG, q4_BG, q5_BG, q6_BG, q7_BG, q8_BG, qf_BG, ql_BG⟩ := BG.nine
                go_wp2_with fail
                clear q0_BV q1_BV q2_BV q3_BV qf_BV ql_BV
                clear q0_BG q1_BG q2_BG q3_BG q4_BG q5_BG q6_BG q7_BG q8_BG qf_BG ql_BG
                refine (HEN.out _ r1 r2).mono ?_
                rintro e w1 ⟨rfl, hb1⟩
                replace BV := BV.below hb1
                replace BG := BG.below hb1
                replace r1 := r1.below hb1
                replace r2 := r2.below hb1
                have hz1 := hb1.size
                replace hb := chain hb hb1
                clear hb1
                obtain ⟨q0_BV, q1_BV, q2_BV, q3_BV, qf_BV, ql_BV⟩ := BV.four
                obtain ⟨q0_BG, q1_BG, q2_BG, q3_BG, q4_BG, q5_BG, q6_BG, q7_BG, q8_BG, qf_BG, ql_BG⟩ := BG.nine
                go_wp2_with fail
                go_ret
                exact ⟨rfl, hb⟩
            · have fa : (ra == 0) = false := by rw [beq_eq_false_iff_ne]; exact ea
              rw [fa, Bool.false_and]
              clear ea
              go_enter Try.func138, Try.ntmps138
              obtain ⟨x0, x1, x2, x3, xf, xl⟩ := BV.four
              obtain ⟨ga0, ga1, ga2, ga3, ga4, ga5, ga6, ga7, ga8, gaf, gal⟩ := BG.nine
              go_wp2_with fail
              clear x0 x1 x2 x3 xf xl
              clear ga0 ga1 ga2 ga3 ga4 ga5 ga6 ga7 ga8 gaf gal
              generalize ((w.alloc (.cells #[.int .i64 p, .int .i64 c, .int .i64 h, .int .i64 s] 32)).alloc (.cells #[.slice a1 n1 c1, .slice a2 n2 c2, .int .i64 pl, .int .i64 ra, .int .i64 rb, .int .i64 ph, .int .i64 wi, .int .i64 re, .int .i64 tu] 70)) = v0 at *
              obtain ⟨q0_BV, q1_BV, q2_BV, q3_BV, qf_BV, ql_BV⟩ := BV.four
              obtain ⟨q0_BG, q1_BG, q2_BG, q3_BG, q4_BG, q5_BG, q6_BG, q7_BG, q8_BG, qf_BG, ql_BG⟩ := BG.nine
              go_wp2_with fail
              clear q0_BV q1_BV q2_BV q3_BV qf_BV ql_BV
              clear q0_BG q1_BG q2_BG q3_BG q4_BG q5_BG q6_BG q7_BG q8_BG qf_BG ql_BG
              refine (HEN.out _ r1 r2).mono ?_
              rintro e w1 ⟨rfl, hb1⟩
              replace BV := BV.below hb1
              replace BG := BG.below hb1
              replace r1 := r1.below hb1
              replace r2 := r2.below hb1
              have hz1 := hb1.size
              replace hb := chain hb hb1
              clear hb1
              obtain ⟨q0_BV, q1_BV, q2_BV, q3_BV, qf_BV, ql_BV⟩ := BV.four
              obtain ⟨q0_BG, q1_BG, q2_BG, q3_BG, q4_BG, q5_BG, q6_BG, q7_BG, q8_BG, qf_BG, ql_BG⟩ := BG.nine
              go_wp2_with fail
              go_ret
              exact ⟨rfl, hb⟩
        · have k3 : (ph == 3) = false := by rw [beq_eq_false_iff_ne]; exact q3
          rw [if_neg q3]
          clear q3
          go_enter Try.func138, Try.ntmps138
          obtain ⟨x0, x1, x2, x3, xf, xl⟩ := BV.four
          obtain ⟨ga0, ga1, ga2, ga3, ga4, ga5, ga6, ga7, ga8, gaf, gal⟩ := BG.nine
          go_wp2_with fail
          clear x0 x1 x2 x3 xf xl
          clear ga0 ga1 ga2 ga3 ga4 ga5 ga6 ga7 ga8 gaf gal
          generalize ((w.alloc (.cells #[.int .i64 p, .int .i64 c, .int .i64 h, .int .i64 s] 32)).alloc (.cells #[.slice a1 n1 c1, .slice a2 n2 c2, .int .i64 pl, .int .i64 ra, .int .i64 rb, .int .i64 ph, .int .i64 wi, .int .i64 re, .int .i64 tu] 70)) = v0 at *
          obtain ⟨q0_BV, q1_BV, q2_BV, q3_BV, qf_BV, ql_BV⟩ := BV.four
          obtain ⟨q0_BG, q1_BG, q2_BG, q3_BG, q4_BG, q5_BG, q6_BG, q7_BG, q8_BG, qf_BG, ql_BG⟩ := BG.nine
          go_wp2_with fail
          go_ret
          exact ⟨rfl, hb⟩
end Go.Proofs.Ytokjkcnjmfbfiaa
