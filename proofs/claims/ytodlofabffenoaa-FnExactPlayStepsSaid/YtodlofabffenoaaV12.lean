/- Texts of a proof, laid together. -/
import Derived.Test.YtodlofabffenoaaV04
import Derived.Laws.CopyOwn
namespace Go.Proofs.Ytodlofabffenoaa
open Go.ChangeShapes Go.WideShapes Go.ChangeAt Go.RowKit
set_option linter.unusedVariables false
set_option linter.unusedSimpArgs false
set_option maxRecDepth 4000
theorem made_blk (w : World) (n : Nat) : Blk (w.alloc (.cells (madeCells #[.int .i64 0] n) 2)) w.heap.size (ints (List.replicate n 0)).toArray 2 := by
  rw [show madeCells #[.int .i64 0] n = (ints (List.replicate n 0)).toArray by
    apply Array.toList_inj.1
    rw [toList_madeCells_one]
    simp [ints]]
  exact Blk.new w _ _
theorem irow_copy {W : World} {b o : Nat} {xs : List Int} (r : IRow W (some ⟨b, o, none⟩) xs) (j : Nat) (v : Value) (hj : (ints xs)[j]? = some v) : W.cell? ((⟨b, o, none⟩ : Addr).add j) = some v := by
  obtain ⟨hlt, rfl⟩ := List.getElem?_eq_some_iff.1 hj
  have hlt' : j < xs.length := by simpa [ints] using hlt
  obtain ⟨b', o', e, hc⟩ := r j hlt'
  injection e with e
  injection e with e1 e2 _
  subst e1 e2
  refine Eq.trans (show _ = W.cell? ⟨b, o + j, none⟩ from by unfold Addr.add; split <;> simp_all) (hc.trans ?_)
  simp [ints, hlt']
theorem ints_one1 {xs : List Int} (v : Value) (hv : v ∈ ints xs) : v.oneCell' = true := by
  obtain ⟨x, _, rfl⟩ := List.mem_map.1 hv
  rfl
theorem wp_copyI {ops : Array Oper} {rest : List Oper} {o : Oper} {a : Act} {Q : Exit → Act → World → Prop} (hgd : o.guard = none) (d s : Operand)
    (ho : o.op = .call { callee := .builtin .copy, args := #[d, s], argTypes := #[24, 24] }) (g n b o' c : Nat) (hd : a.eval d = .slice (some ⟨g, 0, none⟩) n n) (hs : a.eval s = .slice (some ⟨b, o', none⟩) n c)
    {w : World} (hg : Blk w g (ints (List.replicate n 0)).toArray 2) (xs : List Int) (hx : xs.length = n) (hr : IRow w (some ⟨b, o', none⟩) xs)
    (h : ∀ w', Row w' g xs → (∀ k, k ≠ g → w'.heap[k]? = w.heap[k]?) → (∀ B w0, Below B w0 w → B ≤ g → Below B w0 w') → wpList Try.prog ops Q rest (a.put o.dst (.int .i64 n)) w') : wpList Try.prog ops Q (o :: rest) a w := by
  have hsz : (Try.prog.info? 2).map (·.size) = some 1 := by kernel_rfl
  have hl : (ints xs).length = n := by simp [ints, hx]
  refine wpList_copy_own hgd d s 24 24 ho 2 Try.underlying24 hsz g 0 n n ⟨b, o', none⟩ n c hd hs _ 2 hg (ints xs) (by rw [hl]; exact (Nat.min_self n).symm) (irow_copy hr) (by simp [ints, hx]) ints_one1 ?_
  rw [hl]
  refine h _ ⟨_, setRow_heap w g _ _ 2 _ hg, ?_, ?_⟩ (fun k hk => ?_) (fun B w0 hb hB => below_setRow hb hB _)
  · simp [ints, hx]
  · simp [ints, hx]
    exact List.take_of_length_le (by simp [hx])
  · simp only [World.setRow, Array.getElem?_modify]
    rw [if_neg (fun e => hk e.symm)]
set_option maxRecDepth 8000 in
set_option maxHeartbeats 1000000 in
theorem copied_any (a1 a2 : Option Addr) (n1 n2 c1 c2 : Nat) (xs ys : List Int) (w : World) (h1 : xs.length = n1) (h2 : ys.length = n2) (l1 : 0 < n1) (l2 : 0 < n2) (m1 : n1 ≤ 1048576) (m2 : n2 ≤ 1048576) (r1 : IRow w a1 xs) (r2 : IRow w a2 ys) :
    Calls Try.prog 46 #[.agg #[.slice a1 n1 c1, .slice a2 n2 c2]] w fun e w' => ∃ g1 g2, e = .returned (.agg #[.slice (some ⟨g1, 0, none⟩) n1 n1, .slice (some ⟨g2, 0, none⟩) n2 n2]) ∧ g1 ≠ g2 ∧ w.heap.size ≤ g1 ∧ w.heap.size ≤ g2 ∧ Row w' g1 xs ∧ Row w' g2 ys ∧ Below w.heap.size w w' := by
  have hm1 : ∀ W : World, (Instr.makeSlice 24 (.int .i64 (n1 : Int)) (.int .i64 (n1 : Int))).run Try.prog W = .ok (.slice (some ⟨W.heap.size, 0, none⟩) n1 n1) (W.alloc (.cells (madeCells #[.int .i64 0] n1) 2)) := run_make_row' (P := Try.prog) 24 2 (.int .i64 0) 8 Try.underlying24 infoI64 rfl .i64 .i64 n1 (by omega) (by omega)
  have hm2 : ∀ W : World, (Instr.makeSlice 24 (.int .i64 (n2 : Int)) (.int .i64 (n2 : Int))).run Try.prog W = .ok (.slice (some ⟨W.heap.size, 0, none⟩) n2 n2) (W.alloc (.cells (madeCells #[.int .i64 0] n2) 2)) := run_make_row' (P := Try.prog) 24 2 (.int .i64 0) 8 Try.underlying24 infoI64 rfl .i64 .i64 n2 (by omega) (by omega)
  obtain ⟨b1, o1, rfl, -⟩ := r1 0 (by omega)
  obtain ⟨b2, o2, rfl, -⟩ := r2 0 (by omega)
  have BB := (Blk.new w #[.slice (some ⟨b1, o1, none⟩) n1 c1, .slice (some ⟨b2, o2, none⟩) n2 c2] 32).alloc (.cells #[.slice none 0 0, .slice none 0 0] 32)
  have BR := Blk.new (w.alloc (.cells #[.slice (some ⟨b1, o1, none⟩) n1 c1, .slice (some ⟨b2, o2, none⟩) n2 c2] 32)) #[.slice none 0 0, .slice none 0 0] 32
  have hz0 : w.heap.size + 1 + 1 ≤ ((w.alloc (.cells #[.slice (some ⟨b1, o1, none⟩) n1 c1, .slice (some ⟨b2, o2, none⟩) n2 c2] 32)).alloc (.cells #[.slice none 0 0, .slice none 0 0] 32)).heap.size := by simp
  have hb : Below w.heap.size w ((w.alloc (.cells #[.slice (some ⟨b1, o1, none⟩) n1 c1, .slice (some ⟨b2, o2, none⟩) n2 c2] 32)).alloc (.cells #[.slice none 0 0, .slice none 0 0] 32)) := ((Below.refl _ _).alloc (Nat.le_refl _) _).alloc (by simp) _
  rw [show (w.alloc (.cells #[.slice (some ⟨b1, o1, none⟩) n1 c1, .slice (some ⟨b2, o2, none⟩) n2 c2] 32)).heap.size = w.heap.size + 1 by simp] at BR
  obtain ⟨x0, x1, xf, xl⟩ := BB.two
  go_enter Try.func46, Try.ntmps46
  go_wp2_with fail
  clear x0 x1 xf xl
  generalize ((w.alloc (.cells #[.slice (some ⟨b1, o1, none⟩) n1 c1, .slice (some ⟨b2, o2, none⟩) n2 c2] 32)).alloc (.cells #[.slice none 0 0, .slice none 0 0] 32)) = v0 at *
  refine wp_region_held_drew (S := fun w' => w'.cell? ⟨w.heap.size, 0, none⟩ = some (.slice (some ⟨b1, o1, none⟩) n1 c1) ∧ w'.cell? ⟨w.heap.size, 1, none⟩ = some (.slice (some ⟨b2, o2, none⟩) n2 c2)) (by kernel_rfl) ⟨(BB.below (Below.refl _ _).drew).two.1, (BB.below (Below.refl _ _).drew).two.2.1⟩ (fun hHeld => ?_)
  clear hHeld
  have hbS : Below v0.heap.size v0 v0.drew := (Below.refl _ _).drew
  have hzd := hbS.size
  generalize v0.drew = vd at *
  have hHeld : vd.cell? ⟨w.heap.size, 0, none⟩ = some (.slice (some ⟨b1, o1, none⟩) n1 c1) ∧ vd.cell? ⟨w.heap.size, 1, none⟩ = some (.slice (some ⟨b2, o2, none⟩) n2 c2) := ⟨(BB.below hbS).two.1, (BB.below hbS).two.2.1⟩
  refine wpAnyH_take (i := 0) (oi := ⟨some 4, _, _, _, _, _⟩) (v := ?_) rfl (by kernel_rfl) (by kernel_rfl) (by kernel_rfl) (fun _ _ _ h => h) (Or.inl ⟨by rfl, ?_⟩) (by assumption) ?_
  rotate_left
  · intro w hSw; (try dsimp only at hSw); go_simp; (try (with_reducible rfl))
  try simp only [Act.put, List.setIfInBounds_toArray, List.set_cons_zero, List.set_cons_succ]
  refine wpAnyH_take (i := 1) (oi := ⟨some 5, _, _, _, _, _⟩) (v := ?_) rfl (by kernel_rfl) (by kernel_rfl) (by kernel_rfl) (fun _ _ _ h => h) (Or.inl ⟨by rfl, ?_⟩) (by assumption) ?_
  rotate_left
  · intro w hSw; (try dsimp only at hSw); go_simp; (try (with_reducible rfl))
  try simp only [Act.put, List.setIfInBounds_toArray, List.set_cons_zero, List.set_cons_succ]
  refine wpAnyH_take (i := 2) (oi := ⟨some 6, _, _, _, _, _⟩) (v := ?_) rfl (by kernel_rfl) (by kernel_rfl) (by kernel_rfl) (fun _ _ _ h => h) (Or.inl ⟨by rfl, ?_⟩) (by assumption) ?_
  rotate_left
  · intro w hSw; (try dsimp only at hSw); go_simp; (try (with_reducible rfl))
  try simp only [Act.put, List.setIfInBounds_toArray, List.set_cons_zero, List.set_cons_succ]
  refine wpAnyH_take (i := 4) (oi := ⟨some 8, _, _, _, _, _⟩) (v := ?_) rfl (by kernel_rfl) (by kernel_rfl) (by kernel_rfl) (fun _ _ _ h => h) (Or.inl ⟨by rfl, ?_⟩) (by assumption) ?_
  rotate_left
  · intro w hSw; (try dsimp only at hSw); go_simp; (try (with_reducible rfl))
  try simp only [Act.put, List.setIfInBounds_toArray, List.set_cons_zero, List.set_cons_succ]
  refine wpAnyH_take (i := 5) (oi := ⟨some 9, _, _, _, _, _⟩) (v := ?_) rfl (by kernel_rfl) (by kernel_rfl) (by kernel_rfl) (fun _ _ _ h => h) (Or.inl ⟨by rfl, ?_⟩) (by assumption) ?_
  rotate_left
  · intro w hSw; (try dsimp only at hSw); go_simp; (try (with_reducible rfl))
  try simp only [Act.put, List.setIfInBounds_toArray, List.set_cons_zero, List.set_cons_succ]
  refine wpAnyH_take (i := 6) (oi := ⟨some 10, _, _, _, _, _⟩) (v := ?_) rfl (by kernel_rfl) (by kernel_rfl) (by kernel_rfl) (fun _ _ _ h => h) (Or.inl ⟨by rfl, ?_⟩) (by assumption) ?_
  rotate_left
  · intro w hSw; (try dsimp only at hSw); go_simp; (try (with_reducible rfl))
  try simp only [Act.put, List.setIfInBounds_toArray, List.set_cons_zero, List.set_cons_succ]
  refine wpAnyH_ready (rs := [3, 7, 9]) (by kernel_rfl) (by simp) ?_
  refine AllReadyH.cons (o := ⟨some 7, _, _, _, _, _⟩) rfl (fun K hK => ?_) (AllReadyH.cons (o := ⟨some 11, _, _, _, _, _⟩) rfl (fun K hK => ?_) (AllReadyH.cons (o := ⟨some 3, _, _, _, _, _⟩) rfl (fun K hK => ?_) AllReadyH.nil))
  · go_simp
    (try go_wp2_with fail)
    refine hK.out _ _ ⟨(BB.below (hbS.alloc hbS.size _)).two.1, (BB.below (hbS.alloc hbS.size _)).two.2.1⟩ (fun hHeld => ?_)
    clear hK K
    try simp only [Act.put, List.setIfInBounds_toArray, List.set_cons_zero, List.set_cons_succ]
    have M3 := made_blk vd n1
    have hz3 : vd.heap.size + 1 ≤ (vd.alloc (.cells (madeCells #[.int .i64 0] n1) 2)).heap.size := by simp
    have hy3 := hbS.size
    replace hbS := hbS.alloc hbS.size (.cells (madeCells #[.int .i64 0] n1) 2)
    generalize (vd.alloc (.cells (madeCells #[.int .i64 0] n1) 2)) = w3 at *
    generalize vd.heap.size = g3 at *
    refine wpAnyH_ready (rs := [7, 9]) (by kernel_rfl) (by simp) ?_
    refine AllReadyH.cons (o := ⟨some 11, _, _, _, _, _⟩) rfl (fun K hK => ?_) (AllReadyH.cons (o := ⟨some 3, _, _, _, _, _⟩) rfl (fun K hK => ?_) AllReadyH.nil)
    · go_simp
      (try go_wp2_with fail)
      refine hK.out _ _ ⟨(BB.below (hbS.alloc hbS.size _)).two.1, (BB.below (hbS.alloc hbS.size _)).two.2.1⟩ (fun hHeld => ?_)
      clear hK K
      try simp only [Act.put, List.setIfInBounds_toArray, List.set_cons_zero, List.set_cons_succ]
      have M7 := made_blk w3 n2
      have hz7 : w3.heap.size + 1 ≤ (w3.alloc (.cells (madeCells #[.int .i64 0] n2) 2)).heap.size := by simp
      replace M3 := M3.alloc (.cells (madeCells #[.int .i64 0] n2) 2)
      have hy7 := hbS.size
      replace hbS := hbS.alloc hbS.size (.cells (madeCells #[.int .i64 0] n2) 2)
      generalize (w3.alloc (.cells (madeCells #[.int .i64 0] n2) 2)) = w7 at *
      generalize w3.heap.size = g7 at *
      refine wpAnyH_take (i := 8) (oi := ⟨some 12, _, _, _, _, _⟩) (v := ?_) rfl (by kernel_rfl) (by kernel_rfl) (by kernel_rfl) (fun _ _ _ h => h) (Or.inl ⟨by rfl, ?_⟩) (by assumption) ?_
      rotate_left
      · intro w hSw; (try dsimp only at hSw); go_simp; (try (with_reducible rfl))
      try simp only [Act.put, List.setIfInBounds_toArray, List.set_cons_zero, List.set_cons_succ]
      refine wpAnyH_ready (rs := [9]) (by kernel_rfl) (by simp) ?_
      refine AllReadyH.cons (o := ⟨some 3, _, _, _, _, _⟩) rfl (fun K hK => ?_) AllReadyH.nil
      go_simp
      (try go_wp2_with fail)
      refine hK.out _ _ ⟨(BB.below (hbS.alloc hbS.size _)).two.1, (BB.below (hbS.alloc hbS.size _)).two.2.1⟩ (fun hHeld => ?_)
      clear hK K
      try simp only [Act.put, List.setIfInBounds_toArray, List.set_cons_zero, List.set_cons_succ]
      have M9 := Blk.new w7 #[.slice none 0 0, .slice none 0 0] 32
      have hz9 : w7.heap.size + 1 ≤ (w7.alloc (.cells #[.slice none 0 0, .slice none 0 0] 32)).heap.size := by simp
      replace M3 := M3.alloc (.cells #[.slice none 0 0, .slice none 0 0] 32)
      replace M7 := M7.alloc (.cells #[.slice none 0 0, .slice none 0 0] 32)
      have hy9 := hbS.size
      replace hbS := hbS.alloc hbS.size (.cells #[.slice none 0 0, .slice none 0 0] 32)
      generalize (w7.alloc (.cells #[.slice none 0 0, .slice none 0 0] 32)) = w9 at *
      generalize w7.heap.size = g9 at *
      refine wpAnyH_ready (rs := [10]) (by kernel_rfl) (by simp) ?_
      refine AllReadyH.cons (o := ⟨none, _, _, _, _, _⟩) rfl (fun K hK => ?_) AllReadyH.nil
      have q0 := M9.two.1
      have q1 := M9.two.2.1
      have qf := M9.two.2.2.1
      have ql := M9.two.2.2.2
      go_simp
      (try go_wp2_with fail)
      refine hK.out _ _ ⟨(BB.below (below2n M9 hbS (by omega) _ _)).two.1, (BB.below (below2n M9 hbS (by omega) _ _)).two.2.1⟩ (fun hHeld => ?_)
      clear hK K
      try simp only [Act.put, List.setIfInBounds_toArray, List.set_cons_zero, List.set_cons_succ]
      refine wpAnyH_done (by kernel_rfl) ?_ _
      clear hHeld q0 q1 qf ql
      have hbC := below2n M9 hbS (by omega) (.slice (some ⟨g3, 0, none⟩) n1 n1) (.slice (some ⟨g7, 0, none⟩) n2 n2)
      have MC := (M9.set (i := 0) (.slice (some ⟨g3, 0, none⟩) n1 n1)).set (i := 1) (.slice (some ⟨g7, 0, none⟩) n2 n2)
      replace M3 := (M3.other (g := g9) (o := 0) (v := .slice (some ⟨g3, 0, none⟩) n1 n1) (by omega)).other (g := g9) (o := 1) (v := .slice (some ⟨g7, 0, none⟩) n2 n2) (by omega)
      replace M7 := (M7.other (g := g9) (o := 0) (v := .slice (some ⟨g3, 0, none⟩) n1 n1) (by omega)).other (g := g9) (o := 1) (v := .slice (some ⟨g7, 0, none⟩) n2 n2) (by omega)
      clear M9 hbS
      generalize ((w9.setCell ⟨g9, 0, none⟩ (.slice (some ⟨g3, 0, none⟩) n1 n1)).setCell ⟨g9, 1, none⟩ (.slice (some ⟨g7, 0, none⟩) n2 n2)) = wc at *
      have hne : g3 ≠ g7 := by omega
      have hne2 : g3 ≠ g9 := by omega
      have hne3 : g7 ≠ g9 := by omega
      have hbw := chain hb hbC
      have BBc := BB.below hbC
      have BRc := BR.below hbC
      have MC : Blk wc g9 #[.slice (some ⟨g3, 0, none⟩) n1 n1, .slice (some ⟨g7, 0, none⟩) n2 n2] 32 := MC
      clear hm1 hm2 hbC BB BR hb
      obtain ⟨x0, x1, xf, xl⟩ := BBc.two
      obtain ⟨y0, y1, yf, yl⟩ := MC.two
      go_wp2_with (first | ((with_reducible refine wp_copyI rfl (.tmp 14) (.tmp 16) rfl g3 n1 b1 o1 c1 rfl rfl M3 xs h1 (r1.below hbw) ?_); go_loud ( intro w5 R5 hk5 hB5; have hb5 := hB5 _ _ hbw (by omega); have M75 : Blk w5 g7 _ _ := (hk5 g7 (by omega)).trans M7; have MC5 : Blk w5 g9 #[.slice (some ⟨g3, 0, none⟩) n1 n1, .slice (some ⟨g7, 0, none⟩) n2 n2] 32 := (hk5 g9 (by omega)).trans MC; have BB5 : Blk w5 w.heap.size #[.slice (some ⟨b1, o1, none⟩) n1 c1, .slice (some ⟨b2, o2, none⟩) n2 c2] 32 := (hk5 w.heap.size (by omega)).trans BBc; have BR5 : Blk w5 (w.heap.size + 1) #[.slice none 0 0, .slice none 0 0] 32 := (hk5 (w.heap.size + 1) (by omega)).trans BRc; clear x0 x1 xf xl y0 y1 yf yl M3 M7 MC BBc BRc; obtain ⟨x0, x1, xf, xl⟩ := BB5.two; obtain ⟨y0, y1, yf, yl⟩ := MC5.two)) | ((with_reducible refine wp_copyI rfl (.tmp 19) (.tmp 21) rfl g7 n2 b2 o2 c2 rfl rfl M75 ys h2 (r2.below hb5) ?_); go_loud (intro w6 R6 hk6 hB6; have hb6 := hB6 _ _ hb5 (by omega); have R36 : Row w6 g3 xs := (by obtain ⟨cu, q1, q2, q3⟩ := R5; exact ⟨cu, (hk6 g3 (by omega)).trans q1, q2, q3⟩); have MC6 : Blk w6 g9 #[.slice (some ⟨g3, 0, none⟩) n1 n1, .slice (some ⟨g7, 0, none⟩) n2 n2] 32 := (hk6 g9 (by omega)).trans MC5; have BR6 : Blk w6 (w.heap.size + 1) #[.slice none 0 0, .slice none 0 0] 32 := (hk6 (w.heap.size + 1) (by omega)).trans BR5; clear x0 x1 xf xl y0 y1 yf yl R5 M75 MC5 BB5 BR5; obtain ⟨y0, y1, yf, yl⟩ := MC6.two; obtain ⟨z0, z1, zf, zl⟩ := BR6.two)))
      have MR : Blk ((w6.setCell ⟨w.heap.size + 1, 0, none⟩ (.slice (some ⟨g3, 0, none⟩) n1 n1)).setCell ⟨w.heap.size + 1, 1, none⟩ (.slice (some ⟨g7, 0, none⟩) n2 n2)) (w.heap.size + 1) #[.slice (some ⟨g3, 0, none⟩) n1 n1, .slice (some ⟨g7, 0, none⟩) n2 n2] 32 := (BR6.set (i := 0) (.slice (some ⟨g3, 0, none⟩) n1 n1)).set (i := 1) (.slice (some ⟨g7, 0, none⟩) n2 n2)
      have hbR := below2n BR6 hb6 (by omega) (.slice (some ⟨g3, 0, none⟩) n1 n1) (.slice (some ⟨g7, 0, none⟩) n2 n2)
      replace R36 := (R36.other (g := w.heap.size + 1) (o := 0) (v := .slice (some ⟨g3, 0, none⟩) n1 n1) (by omega)).other (g := w.heap.size + 1) (o := 1) (v := .slice (some ⟨g7, 0, none⟩) n2 n2) (by omega)
      replace R6 := (R6.other (g := w.heap.size + 1) (o := 0) (v := .slice (some ⟨g3, 0, none⟩) n1 n1) (by omega)).other (g := w.heap.size + 1) (o := 1) (v := .slice (some ⟨g7, 0, none⟩) n2 n2) (by omega)
      generalize ((w6.setCell ⟨w.heap.size + 1, 0, none⟩ (.slice (some ⟨g3, 0, none⟩) n1 n1)).setCell ⟨w.heap.size + 1, 1, none⟩ (.slice (some ⟨g7, 0, none⟩) n2 n2)) = we at *
      clear y0 y1 yf yl z0 z1 zf zl
      obtain ⟨z0, z1, zf, zl⟩ := MR.two
      refine bodyPost_ret (v := .agg #[.slice (some ⟨g3, 0, none⟩) n1 n1, .slice (some ⟨g7, 0, none⟩) n2 n2]) (by simp [results, Try.results46, go_sem, z0, z1]) rfl ?_
      exact ⟨g3, g7, rfl, hne, by omega, by omega, R36, R6, hbR⟩
    · go_simp
      (try go_wp2_with fail)
      refine hK.out _ _ ⟨(BB.below (hbS.alloc hbS.size _)).two.1, (BB.below (hbS.alloc hbS.size _)).two.2.1⟩ (fun hHeld => ?_)
      clear hK K
      try simp only [Act.put, List.setIfInBounds_toArray, List.set_cons_zero, List.set_cons_succ]
      have M9 := Blk.new w3 #[.slice none 0 0, .slice none 0 0] 32
      have hz9 : w3.heap.size + 1 ≤ (w3.alloc (.cells #[.slice none 0 0, .slice none 0 0] 32)).heap.size := by simp
      replace M3 := M3.alloc (.cells #[.slice none 0 0, .slice none 0 0] 32)
      have hy9 := hbS.size
      replace hbS := hbS.alloc hbS.size (.cells #[.slice none 0 0, .slice none 0 0] 32)
      generalize (w3.alloc (.cells #[.slice none 0 0, .slice none 0 0] 32)) = w9 at *
      generalize w3.heap.size = g9 at *
      refine wpAnyH_ready (rs := [7]) (by kernel_rfl) (by simp) ?_
      refine AllReadyH.cons (o := ⟨some 11, _, _, _, _, _⟩) rfl (fun K hK => ?_) AllReadyH.nil
      go_simp
      (try go_wp2_with fail)
      refine hK.out _ _ ⟨(BB.below (hbS.alloc hbS.size _)).two.1, (BB.below (hbS.alloc hbS.size _)).two.2.1⟩ (fun hHeld => ?_)
      clear hK K
      try simp only [Act.put, List.setIfInBounds_toArray, List.set_cons_zero, List.set_cons_succ]
      have M7 := made_blk w9 n2
      have hz7 : w9.heap.size + 1 ≤ (w9.alloc (.cells (madeCells #[.int .i64 0] n2) 2)).heap.size := by simp
      replace M3 := M3.alloc (.cells (madeCells #[.int .i64 0] n2) 2)
      replace M9 := M9.alloc (.cells (madeCells #[.int .i64 0] n2) 2)
      have hy7 := hbS.size
      replace hbS := hbS.alloc hbS.size (.cells (madeCells #[.int .i64 0] n2) 2)
      generalize (w9.alloc (.cells (madeCells #[.int .i64 0] n2) 2)) = w7 at *
      generalize w9.heap.size = g7 at *
      refine wpAnyH_take (i := 8) (oi := ⟨some 12, _, _, _, _, _⟩) (v := ?_) rfl (by kernel_rfl) (by kernel_rfl) (by kernel_rfl) (fun _ _ _ h => h) (Or.inl ⟨by rfl, ?_⟩) (by assumption) ?_
      rotate_left
      · intro w hSw; (try dsimp only at hSw); go_simp; (try (with_reducible rfl))
      try simp only [Act.put, List.setIfInBounds_toArray, List.set_cons_zero, List.set_cons_succ]
      refine wpAnyH_ready (rs := [10]) (by kernel_rfl) (by simp) ?_
      refine AllReadyH.cons (o := ⟨none, _, _, _, _, _⟩) rfl (fun K hK => ?_) AllReadyH.nil
      have q0 := M9.two.1
      have q1 := M9.two.2.1
      have qf := M9.two.2.2.1
      have ql := M9.two.2.2.2
      go_simp
      (try go_wp2_with fail)
      refine hK.out _ _ ⟨(BB.below (below2n M9 hbS (by omega) _ _)).two.1, (BB.below (below2n M9 hbS (by omega) _ _)).two.2.1⟩ (fun hHeld => ?_)
      clear hK K
      try simp only [Act.put, List.setIfInBounds_toArray, List.set_cons_zero, List.set_cons_succ]
      refine wpAnyH_done (by kernel_rfl) ?_ _
      clear hHeld q0 q1 qf ql
      have hbC := below2n M9 hbS (by omega) (.slice (some ⟨g3, 0, none⟩) n1 n1) (.slice (some ⟨g7, 0, none⟩) n2 n2)
      have MC := (M9.set (i := 0) (.slice (some ⟨g3, 0, none⟩) n1 n1)).set (i := 1) (.slice (some ⟨g7, 0, none⟩) n2 n2)
      replace M3 := (M3.other (g := g9) (o := 0) (v := .slice (some ⟨g3, 0, none⟩) n1 n1) (by omega)).other (g := g9) (o := 1) (v := .slice (some ⟨g7, 0, none⟩) n2 n2) (by omega)
      replace M7 := (M7.other (g := g9) (o := 0) (v := .slice (some ⟨g3, 0, none⟩) n1 n1) (by omega)).other (g := g9) (o := 1) (v := .slice (some ⟨g7, 0, none⟩) n2 n2) (by omega)
      clear M9 hbS
      generalize ((w7.setCell ⟨g9, 0, none⟩ (.slice (some ⟨g3, 0, none⟩) n1 n1)).setCell ⟨g9, 1, none⟩ (.slice (some ⟨g7, 0, none⟩) n2 n2)) = wc at *
      have hne : g3 ≠ g7 := by omega
      have hne2 : g3 ≠ g9 := by omega
      have hne3 : g7 ≠ g9 := by omega
      have hbw := chain hb hbC
      have BBc := BB.below hbC
      have BRc := BR.below hbC
      have MC : Blk wc g9 #[.slice (some ⟨g3, 0, none⟩) n1 n1, .slice (some ⟨g7, 0, none⟩) n2 n2] 32 := MC
      clear hm1 hm2 hbC BB BR hb
      obtain ⟨x0, x1, xf, xl⟩ := BBc.two
      obtain ⟨y0, y1, yf, yl⟩ := MC.two
      go_wp2_with (first | ((with_reducible refine wp_copyI rfl (.tmp 14) (.tmp 16) rfl g3 n1 b1 o1 c1 rfl rfl M3 xs h1 (r1.below hbw) ?_); go_loud ( intro w5 R5 hk5 hB5; have hb5 := hB5 _ _ hbw (by omega); have M75 : Blk w5 g7 _ _ := (hk5 g7 (by omega)).trans M7; have MC5 : Blk w5 g9 #[.slice (some ⟨g3, 0, none⟩) n1 n1, .slice (some ⟨g7, 0, none⟩) n2 n2] 32 := (hk5 g9 (by omega)).trans MC; have BB5 : Blk w5 w.heap.size #[.slice (some ⟨b1, o1, none⟩) n1 c1, .slice (some ⟨b2, o2, none⟩) n2 c2] 32 := (hk5 w.heap.size (by omega)).trans BBc; have BR5 : Blk w5 (w.heap.size + 1) #[.slice none 0 0, .slice none 0 0] 32 := (hk5 (w.heap.size + 1) (by omega)).trans BRc; clear x0 x1 xf xl y0 y1 yf yl M3 M7 MC BBc BRc; obtain ⟨x0, x1, xf, xl⟩ := BB5.two; obtain ⟨y0, y1, yf, yl⟩ := MC5.two)) | ((with_reducible refine wp_copyI rfl (.tmp 19) (.tmp 21) rfl g7 n2 b2 o2 c2 rfl rfl M75 ys h2 (r2.below hb5) ?_); go_loud (intro w6 R6 hk6 hB6; have hb6 := hB6 _ _ hb5 (by omega); have R36 : Row w6 g3 xs := (by obtain ⟨cu, q1, q2, q3⟩ := R5; exact ⟨cu, (hk6 g3 (by omega)).trans q1, q2, q3⟩); have MC6 : Blk w6 g9 #[.slice (some ⟨g3, 0, none⟩) n1 n1, .slice (some ⟨g7, 0, none⟩) n2 n2] 32 := (hk6 g9 (by omega)).trans MC5; have BR6 : Blk w6 (w.heap.size + 1) #[.slice none 0 0, .slice none 0 0] 32 := (hk6 (w.heap.size + 1) (by omega)).trans BR5; clear x0 x1 xf xl y0 y1 yf yl R5 M75 MC5 BB5 BR5; obtain ⟨y0, y1, yf, yl⟩ := MC6.two; obtain ⟨z0, z1, zf, zl⟩ := BR6.two)))
      have MR : Blk ((w6.setCell ⟨w.heap.size + 1, 0, none⟩ (.slice (some ⟨g3, 0, none⟩) n1 n1)).setCell ⟨w.heap.size + 1, 1, none⟩ (.slice (some ⟨g7, 0, none⟩) n2 n2)) (w.heap.size + 1) #[.slice (some ⟨g3, 0, none⟩) n1 n1, .slice (some ⟨g7, 0, none⟩) n2 n2] 32 := (BR6.set (i := 0) (.slice (some ⟨g3, 0, none⟩) n1 n1)).set (i := 1) (.slice (some ⟨g7, 0, none⟩) n2 n2)
      have hbR := below2n BR6 hb6 (by omega) (.slice (some ⟨g3, 0, none⟩) n1 n1) (.slice (some ⟨g7, 0, none⟩) n2 n2)
      replace R36 := (R36.other (g := w.heap.size + 1) (o := 0) (v := .slice (some ⟨g3, 0, none⟩) n1 n1) (by omega)).other (g := w.heap.size + 1) (o := 1) (v := .slice (some ⟨g7, 0, none⟩) n2 n2) (by omega)
      replace R6 := (R6.other (g := w.heap.size + 1) (o := 0) (v := .slice (some ⟨g3, 0, none⟩) n1 n1) (by omega)).other (g := w.heap.size + 1) (o := 1) (v := .slice (some ⟨g7, 0, none⟩) n2 n2) (by omega)
      generalize ((w6.setCell ⟨w.heap.size + 1, 0, none⟩ (.slice (some ⟨g3, 0, none⟩) n1 n1)).setCell ⟨w.heap.size + 1, 1, none⟩ (.slice (some ⟨g7, 0, none⟩) n2 n2)) = we at *
      clear y0 y1 yf yl z0 z1 zf zl
      obtain ⟨z0, z1, zf, zl⟩ := MR.two
      refine bodyPost_ret (v := .agg #[.slice (some ⟨g3, 0, none⟩) n1 n1, .slice (some ⟨g7, 0, none⟩) n2 n2]) (by simp [results, Try.results46, go_sem, z0, z1]) rfl ?_
      exact ⟨g3, g7, rfl, hne, by omega, by omega, R36, R6, hbR⟩
  · go_simp
    (try go_wp2_with fail)
    refine hK.out _ _ ⟨(BB.below (hbS.alloc hbS.size _)).two.1, (BB.below (hbS.alloc hbS.size _)).two.2.1⟩ (fun hHeld => ?_)
    clear hK K
    try simp only [Act.put, List.setIfInBounds_toArray, List.set_cons_zero, List.set_cons_succ]
    have M7 := made_blk vd n2
    have hz7 : vd.heap.size + 1 ≤ (vd.alloc (.cells (madeCells #[.int .i64 0] n2) 2)).heap.size := by simp
    have hy7 := hbS.size
    replace hbS := hbS.alloc hbS.size (.cells (madeCells #[.int .i64 0] n2) 2)
    generalize (vd.alloc (.cells (madeCells #[.int .i64 0] n2) 2)) = w7 at *
    generalize vd.heap.size = g7 at *
    refine wpAnyH_ready (rs := [3, 9]) (by kernel_rfl) (by simp) ?_
    refine AllReadyH.cons (o := ⟨some 7, _, _, _, _, _⟩) rfl (fun K hK => ?_) (AllReadyH.cons (o := ⟨some 3, _, _, _, _, _⟩) rfl (fun K hK => ?_) AllReadyH.nil)
    · go_simp
      (try go_wp2_with fail)
      refine hK.out _ _ ⟨(BB.below (hbS.alloc hbS.size _)).two.1, (BB.below (hbS.alloc hbS.size _)).two.2.1⟩ (fun hHeld => ?_)
      clear hK K
      try simp only [Act.put, List.setIfInBounds_toArray, List.set_cons_zero, List.set_cons_succ]
      have M3 := made_blk w7 n1
      have hz3 : w7.heap.size + 1 ≤ (w7.alloc (.cells (madeCells #[.int .i64 0] n1) 2)).heap.size := by simp
      replace M7 := M7.alloc (.cells (madeCells #[.int .i64 0] n1) 2)
      have hy3 := hbS.size
      replace hbS := hbS.alloc hbS.size (.cells (madeCells #[.int .i64 0] n1) 2)
      generalize (w7.alloc (.cells (madeCells #[.int .i64 0] n1) 2)) = w3 at *
      generalize w7.heap.size = g3 at *
      refine wpAnyH_take (i := 8) (oi := ⟨some 12, _, _, _, _, _⟩) (v := ?_) rfl (by kernel_rfl) (by kernel_rfl) (by kernel_rfl) (fun _ _ _ h => h) (Or.inl ⟨by rfl, ?_⟩) (by assumption) ?_
      rotate_left
      · intro w hSw; (try dsimp only at hSw); go_simp; (try (with_reducible rfl))
      try simp only [Act.put, List.setIfInBounds_toArray, List.set_cons_zero, List.set_cons_succ]
      refine wpAnyH_ready (rs := [9]) (by kernel_rfl) (by simp) ?_
      refine AllReadyH.cons (o := ⟨some 3, _, _, _, _, _⟩) rfl (fun K hK => ?_) AllReadyH.nil
      go_simp
      (try go_wp2_with fail)
      refine hK.out _ _ ⟨(BB.below (hbS.alloc hbS.size _)).two.1, (BB.below (hbS.alloc hbS.size _)).two.2.1⟩ (fun hHeld => ?_)
      clear hK K
      try simp only [Act.put, List.setIfInBounds_toArray, List.set_cons_zero, List.set_cons_succ]
      have M9 := Blk.new w3 #[.slice none 0 0, .slice none 0 0] 32
      have hz9 : w3.heap.size + 1 ≤ (w3.alloc (.cells #[.slice none 0 0, .slice none 0 0] 32)).heap.size := by simp
      replace M7 := M7.alloc (.cells #[.slice none 0 0, .slice none 0 0] 32)
      replace M3 := M3.alloc (.cells #[.slice none 0 0, .slice none 0 0] 32)
      have hy9 := hbS.size
      replace hbS := hbS.alloc hbS.size (.cells #[.slice none 0 0, .slice none 0 0] 32)
      generalize (w3.alloc (.cells #[.slice none 0 0, .slice none 0 0] 32)) = w9 at *
      generalize w3.heap.size = g9 at *
      refine wpAnyH_ready (rs := [10]) (by kernel_rfl) (by simp) ?_
      refine AllReadyH.cons (o := ⟨none, _, _, _, _, _⟩) rfl (fun K hK => ?_) AllReadyH.nil
      have q0 := M9.two.1
      have q1 := M9.two.2.1
      have qf := M9.two.2.2.1
      have ql := M9.two.2.2.2
      go_simp
      (try go_wp2_with fail)
      refine hK.out _ _ ⟨(BB.below (below2n M9 hbS (by omega) _ _)).two.1, (BB.below (below2n M9 hbS (by omega) _ _)).two.2.1⟩ (fun hHeld => ?_)
      clear hK K
      try simp only [Act.put, List.setIfInBounds_toArray, List.set_cons_zero, List.set_cons_succ]
      refine wpAnyH_done (by kernel_rfl) ?_ _
      clear hHeld q0 q1 qf ql
      have hbC := below2n M9 hbS (by omega) (.slice (some ⟨g3, 0, none⟩) n1 n1) (.slice (some ⟨g7, 0, none⟩) n2 n2)
      have MC := (M9.set (i := 0) (.slice (some ⟨g3, 0, none⟩) n1 n1)).set (i := 1) (.slice (some ⟨g7, 0, none⟩) n2 n2)
      replace M3 := (M3.other (g := g9) (o := 0) (v := .slice (some ⟨g3, 0, none⟩) n1 n1) (by omega)).other (g := g9) (o := 1) (v := .slice (some ⟨g7, 0, none⟩) n2 n2) (by omega)
      replace M7 := (M7.other (g := g9) (o := 0) (v := .slice (some ⟨g3, 0, none⟩) n1 n1) (by omega)).other (g := g9) (o := 1) (v := .slice (some ⟨g7, 0, none⟩) n2 n2) (by omega)
      clear M9 hbS
      generalize ((w9.setCell ⟨g9, 0, none⟩ (.slice (some ⟨g3, 0, none⟩) n1 n1)).setCell ⟨g9, 1, none⟩ (.slice (some ⟨g7, 0, none⟩) n2 n2)) = wc at *
      have hne : g3 ≠ g7 := by omega
      have hne2 : g3 ≠ g9 := by omega
      have hne3 : g7 ≠ g9 := by omega
      have hbw := chain hb hbC
      have BBc := BB.below hbC
      have BRc := BR.below hbC
      have MC : Blk wc g9 #[.slice (some ⟨g3, 0, none⟩) n1 n1, .slice (some ⟨g7, 0, none⟩) n2 n2] 32 := MC
      clear hm1 hm2 hbC BB BR hb
      obtain ⟨x0, x1, xf, xl⟩ := BBc.two
      obtain ⟨y0, y1, yf, yl⟩ := MC.two
      go_wp2_with (first | ((with_reducible refine wp_copyI rfl (.tmp 14) (.tmp 16) rfl g3 n1 b1 o1 c1 rfl rfl M3 xs h1 (r1.below hbw) ?_); go_loud ( intro w5 R5 hk5 hB5; have hb5 := hB5 _ _ hbw (by omega); have M75 : Blk w5 g7 _ _ := (hk5 g7 (by omega)).trans M7; have MC5 : Blk w5 g9 #[.slice (some ⟨g3, 0, none⟩) n1 n1, .slice (some ⟨g7, 0, none⟩) n2 n2] 32 := (hk5 g9 (by omega)).trans MC; have BB5 : Blk w5 w.heap.size #[.slice (some ⟨b1, o1, none⟩) n1 c1, .slice (some ⟨b2, o2, none⟩) n2 c2] 32 := (hk5 w.heap.size (by omega)).trans BBc; have BR5 : Blk w5 (w.heap.size + 1) #[.slice none 0 0, .slice none 0 0] 32 := (hk5 (w.heap.size + 1) (by omega)).trans BRc; clear x0 x1 xf xl y0 y1 yf yl M3 M7 MC BBc BRc; obtain ⟨x0, x1, xf, xl⟩ := BB5.two; obtain ⟨y0, y1, yf, yl⟩ := MC5.two)) | ((with_reducible refine wp_copyI rfl (.tmp 19) (.tmp 21) rfl g7 n2 b2 o2 c2 rfl rfl M75 ys h2 (r2.below hb5) ?_); go_loud (intro w6 R6 hk6 hB6; have hb6 := hB6 _ _ hb5 (by omega); have R36 : Row w6 g3 xs := (by obtain ⟨cu, q1, q2, q3⟩ := R5; exact ⟨cu, (hk6 g3 (by omega)).trans q1, q2, q3⟩); have MC6 : Blk w6 g9 #[.slice (some ⟨g3, 0, none⟩) n1 n1, .slice (some ⟨g7, 0, none⟩) n2 n2] 32 := (hk6 g9 (by omega)).trans MC5; have BR6 : Blk w6 (w.heap.size + 1) #[.slice none 0 0, .slice none 0 0] 32 := (hk6 (w.heap.size + 1) (by omega)).trans BR5; clear x0 x1 xf xl y0 y1 yf yl R5 M75 MC5 BB5 BR5; obtain ⟨y0, y1, yf, yl⟩ := MC6.two; obtain ⟨z0, z1, zf, zl⟩ := BR6.two)))
      have MR : Blk ((w6.setCell ⟨w.heap.size + 1, 0, none⟩ (.slice (some ⟨g3, 0, none⟩) n1 n1)).setCell ⟨w.heap.size + 1, 1, none⟩ (.slice (some ⟨g7, 0, none⟩) n2 n2)) (w.heap.size + 1) #[.slice (some ⟨g3, 0, none⟩) n1 n1, .slice (some ⟨g7, 0, none⟩) n2 n2] 32 := (BR6.set (i := 0) (.slice (some ⟨g3, 0, none⟩) n1 n1)).set (i := 1) (.slice (some ⟨g7, 0, none⟩) n2 n2)
      have hbR := below2n BR6 hb6 (by omega) (.slice (some ⟨g3, 0, none⟩) n1 n1) (.slice (some ⟨g7, 0, none⟩) n2 n2)
      replace R36 := (R36.other (g := w.heap.size + 1) (o := 0) (v := .slice (some ⟨g3, 0, none⟩) n1 n1) (by omega)).other (g := w.heap.size + 1) (o := 1) (v := .slice (some ⟨g7, 0, none⟩) n2 n2) (by omega)
      replace R6 := (R6.other (g := w.heap.size + 1) (o := 0) (v := .slice (some ⟨g3, 0, none⟩) n1 n1) (by omega)).other (g := w.heap.size + 1) (o := 1) (v := .slice (some ⟨g7, 0, none⟩) n2 n2) (by omega)
      generalize ((w6.setCell ⟨w.heap.size + 1, 0, none⟩ (.slice (some ⟨g3, 0, none⟩) n1 n1)).setCell ⟨w.heap.size + 1, 1, none⟩ (.slice (some ⟨g7, 0, none⟩) n2 n2)) = we at *
      clear y0 y1 yf yl z0 z1 zf zl
      obtain ⟨z0, z1, zf, zl⟩ := MR.two
      refine bodyPost_ret (v := .agg #[.slice (some ⟨g3, 0, none⟩) n1 n1, .slice (some ⟨g7, 0, none⟩) n2 n2]) (by simp [results, Try.results46, go_sem, z0, z1]) rfl ?_
      exact ⟨g3, g7, rfl, hne, by omega, by omega, R36, R6, hbR⟩
    · go_simp
      (try go_wp2_with fail)
      refine hK.out _ _ ⟨(BB.below (hbS.alloc hbS.size _)).two.1, (BB.below (hbS.alloc hbS.size _)).two.2.1⟩ (fun hHeld => ?_)
      clear hK K
      try simp only [Act.put, List.setIfInBounds_toArray, List.set_cons_zero, List.set_cons_succ]
      have M9 := Blk.new w7 #[.slice none 0 0, .slice none 0 0] 32
      have hz9 : w7.heap.size + 1 ≤ (w7.alloc (.cells #[.slice none 0 0, .slice none 0 0] 32)).heap.size := by simp
      replace M7 := M7.alloc (.cells #[.slice none 0 0, .slice none 0 0] 32)
      have hy9 := hbS.size
      replace hbS := hbS.alloc hbS.size (.cells #[.slice none 0 0, .slice none 0 0] 32)
      generalize (w7.alloc (.cells #[.slice none 0 0, .slice none 0 0] 32)) = w9 at *
      generalize w7.heap.size = g9 at *
      refine wpAnyH_ready (rs := [3]) (by kernel_rfl) (by simp) ?_
      refine AllReadyH.cons (o := ⟨some 7, _, _, _, _, _⟩) rfl (fun K hK => ?_) AllReadyH.nil
      go_simp
      (try go_wp2_with fail)
      refine hK.out _ _ ⟨(BB.below (hbS.alloc hbS.size _)).two.1, (BB.below (hbS.alloc hbS.size _)).two.2.1⟩ (fun hHeld => ?_)
      clear hK K
      try simp only [Act.put, List.setIfInBounds_toArray, List.set_cons_zero, List.set_cons_succ]
      have M3 := made_blk w9 n1
      have hz3 : w9.heap.size + 1 ≤ (w9.alloc (.cells (madeCells #[.int .i64 0] n1) 2)).heap.size := by simp
      replace M7 := M7.alloc (.cells (madeCells #[.int .i64 0] n1) 2)
      replace M9 := M9.alloc (.cells (madeCells #[.int .i64 0] n1) 2)
      have hy3 := hbS.size
      replace hbS := hbS.alloc hbS.size (.cells (madeCells #[.int .i64 0] n1) 2)
      generalize (w9.alloc (.cells (madeCells #[.int .i64 0] n1) 2)) = w3 at *
      generalize w9.heap.size = g3 at *
      refine wpAnyH_take (i := 8) (oi := ⟨some 12, _, _, _, _, _⟩) (v := ?_) rfl (by kernel_rfl) (by kernel_rfl) (by kernel_rfl) (fun _ _ _ h => h) (Or.inl ⟨by rfl, ?_⟩) (by assumption) ?_
      rotate_left
      · intro w hSw; (try dsimp only at hSw); go_simp; (try (with_reducible rfl))
      try simp only [Act.put, List.setIfInBounds_toArray, List.set_cons_zero, List.set_cons_succ]
      refine wpAnyH_ready (rs := [10]) (by kernel_rfl) (by simp) ?_
      refine AllReadyH.cons (o := ⟨none, _, _, _, _, _⟩) rfl (fun K hK => ?_) AllReadyH.nil
      have q0 := M9.two.1
      have q1 := M9.two.2.1
      have qf := M9.two.2.2.1
      have ql := M9.two.2.2.2
      go_simp
      (try go_wp2_with fail)
      refine hK.out _ _ ⟨(BB.below (below2n M9 hbS (by omega) _ _)).two.1, (BB.below (below2n M9 hbS (by omega) _ _)).two.2.1⟩ (fun hHeld => ?_)
      clear hK K
      try simp only [Act.put, List.setIfInBounds_toArray, List.set_cons_zero, List.set_cons_succ]
      refine wpAnyH_done (by kernel_rfl) ?_ _
      clear hHeld q0 q1 qf ql
      have hbC := below2n M9 hbS (by omega) (.slice (some ⟨g3, 0, none⟩) n1 n1) (.slice (some ⟨g7, 0, none⟩) n2 n2)
      have MC := (M9.set (i := 0) (.slice (some ⟨g3, 0, none⟩) n1 n1)).set (i := 1) (.slice (some ⟨g7, 0, none⟩) n2 n2)
      replace M3 := (M3.other (g := g9) (o := 0) (v := .slice (some ⟨g3, 0, none⟩) n1 n1) (by omega)).other (g := g9) (o := 1) (v := .slice (some ⟨g7, 0, none⟩) n2 n2) (by omega)
      replace M7 := (M7.other (g := g9) (o := 0) (v := .slice (some ⟨g3, 0, none⟩) n1 n1) (by omega)).other (g := g9) (o := 1) (v := .slice (some ⟨g7, 0, none⟩) n2 n2) (by omega)
      clear M9 hbS
      generalize ((w3.setCell ⟨g9, 0, none⟩ (.slice (some ⟨g3, 0, none⟩) n1 n1)).setCell ⟨g9, 1, none⟩ (.slice (some ⟨g7, 0, none⟩) n2 n2)) = wc at *
      have hne : g3 ≠ g7 := by omega
      have hne2 : g3 ≠ g9 := by omega
      have hne3 : g7 ≠ g9 := by omega
      have hbw := chain hb hbC
      have BBc := BB.below hbC
      have BRc := BR.below hbC
      have MC : Blk wc g9 #[.slice (some ⟨g3, 0, none⟩) n1 n1, .slice (some ⟨g7, 0, none⟩) n2 n2] 32 := MC
      clear hm1 hm2 hbC BB BR hb
      obtain ⟨x0, x1, xf, xl⟩ := BBc.two
      obtain ⟨y0, y1, yf, yl⟩ := MC.two
      go_wp2_with (first | ((with_reducible refine wp_copyI rfl (.tmp 14) (.tmp 16) rfl g3 n1 b1 o1 c1 rfl rfl M3 xs h1 (r1.below hbw) ?_); go_loud ( intro w5 R5 hk5 hB5; have hb5 := hB5 _ _ hbw (by omega); have M75 : Blk w5 g7 _ _ := (hk5 g7 (by omega)).trans M7; have MC5 : Blk w5 g9 #[.slice (some ⟨g3, 0, none⟩) n1 n1, .slice (some ⟨g7, 0, none⟩) n2 n2] 32 := (hk5 g9 (by omega)).trans MC; have BB5 : Blk w5 w.heap.size #[.slice (some ⟨b1, o1, none⟩) n1 c1, .slice (some ⟨b2, o2, none⟩) n2 c2] 32 := (hk5 w.heap.size (by omega)).trans BBc; have BR5 : Blk w5 (w.heap.size + 1) #[.slice none 0 0, .slice none 0 0] 32 := (hk5 (w.heap.size + 1) (by omega)).trans BRc; clear x0 x1 xf xl y0 y1 yf yl M3 M7 MC BBc BRc; obtain ⟨x0, x1, xf, xl⟩ := BB5.two; obtain ⟨y0, y1, yf, yl⟩ := MC5.two)) | ((with_reducible refine wp_copyI rfl (.tmp 19) (.tmp 21) rfl g7 n2 b2 o2 c2 rfl rfl M75 ys h2 (r2.below hb5) ?_); go_loud (intro w6 R6 hk6 hB6; have hb6 := hB6 _ _ hb5 (by omega); have R36 : Row w6 g3 xs := (by obtain ⟨cu, q1, q2, q3⟩ := R5; exact ⟨cu, (hk6 g3 (by omega)).trans q1, q2, q3⟩); have MC6 : Blk w6 g9 #[.slice (some ⟨g3, 0, none⟩) n1 n1, .slice (some ⟨g7, 0, none⟩) n2 n2] 32 := (hk6 g9 (by omega)).trans MC5; have BR6 : Blk w6 (w.heap.size + 1) #[.slice none 0 0, .slice none 0 0] 32 := (hk6 (w.heap.size + 1) (by omega)).trans BR5; clear x0 x1 xf xl y0 y1 yf yl R5 M75 MC5 BB5 BR5; obtain ⟨y0, y1, yf, yl⟩ := MC6.two; obtain ⟨z0, z1, zf, zl⟩ := BR6.two)))
      have MR : Blk ((w6.setCell ⟨w.heap.size + 1, 0, none⟩ (.slice (some ⟨g3, 0, none⟩) n1 n1)).setCell ⟨w.heap.size + 1, 1, none⟩ (.slice (some ⟨g7, 0, none⟩) n2 n2)) (w.heap.size + 1) #[.slice (some ⟨g3, 0, none⟩) n1 n1, .slice (some ⟨g7, 0, none⟩) n2 n2] 32 := (BR6.set (i := 0) (.slice (some ⟨g3, 0, none⟩) n1 n1)).set (i := 1) (.slice (some ⟨g7, 0, none⟩) n2 n2)
      have hbR := below2n BR6 hb6 (by omega) (.slice (some ⟨g3, 0, none⟩) n1 n1) (.slice (some ⟨g7, 0, none⟩) n2 n2)
      replace R36 := (R36.other (g := w.heap.size + 1) (o := 0) (v := .slice (some ⟨g3, 0, none⟩) n1 n1) (by omega)).other (g := w.heap.size + 1) (o := 1) (v := .slice (some ⟨g7, 0, none⟩) n2 n2) (by omega)
      replace R6 := (R6.other (g := w.heap.size + 1) (o := 0) (v := .slice (some ⟨g3, 0, none⟩) n1 n1) (by omega)).other (g := w.heap.size + 1) (o := 1) (v := .slice (some ⟨g7, 0, none⟩) n2 n2) (by omega)
      generalize ((w6.setCell ⟨w.heap.size + 1, 0, none⟩ (.slice (some ⟨g3, 0, none⟩) n1 n1)).setCell ⟨w.heap.size + 1, 1, none⟩ (.slice (some ⟨g7, 0, none⟩) n2 n2)) = we at *
      clear y0 y1 yf yl z0 z1 zf zl
      obtain ⟨z0, z1, zf, zl⟩ := MR.two
      refine bodyPost_ret (v := .agg #[.slice (some ⟨g3, 0, none⟩) n1 n1, .slice (some ⟨g7, 0, none⟩) n2 n2]) (by simp [results, Try.results46, go_sem, z0, z1]) rfl ?_
      exact ⟨g3, g7, rfl, hne, by omega, by omega, R36, R6, hbR⟩
  · go_simp
    (try go_wp2_with fail)
    refine hK.out _ _ ⟨(BB.below (hbS.alloc hbS.size _)).two.1, (BB.below (hbS.alloc hbS.size _)).two.2.1⟩ (fun hHeld => ?_)
    clear hK K
    try simp only [Act.put, List.setIfInBounds_toArray, List.set_cons_zero, List.set_cons_succ]
    have M9 := Blk.new vd #[.slice none 0 0, .slice none 0 0] 32
    have hz9 : vd.heap.size + 1 ≤ (vd.alloc (.cells #[.slice none 0 0, .slice none 0 0] 32)).heap.size := by simp
    have hy9 := hbS.size
    replace hbS := hbS.alloc hbS.size (.cells #[.slice none 0 0, .slice none 0 0] 32)
    generalize (vd.alloc (.cells #[.slice none 0 0, .slice none 0 0] 32)) = w9 at *
    generalize vd.heap.size = g9 at *
    refine wpAnyH_ready (rs := [3, 7]) (by kernel_rfl) (by simp) ?_
    refine AllReadyH.cons (o := ⟨some 7, _, _, _, _, _⟩) rfl (fun K hK => ?_) (AllReadyH.cons (o := ⟨some 11, _, _, _, _, _⟩) rfl (fun K hK => ?_) AllReadyH.nil)
    · go_simp
      (try go_wp2_with fail)
      refine hK.out _ _ ⟨(BB.below (hbS.alloc hbS.size _)).two.1, (BB.below (hbS.alloc hbS.size _)).two.2.1⟩ (fun hHeld => ?_)
      clear hK K
      try simp only [Act.put, List.setIfInBounds_toArray, List.set_cons_zero, List.set_cons_succ]
      have M3 := made_blk w9 n1
      have hz3 : w9.heap.size + 1 ≤ (w9.alloc (.cells (madeCells #[.int .i64 0] n1) 2)).heap.size := by simp
      replace M9 := M9.alloc (.cells (madeCells #[.int .i64 0] n1) 2)
      have hy3 := hbS.size
      replace hbS := hbS.alloc hbS.size (.cells (madeCells #[.int .i64 0] n1) 2)
      generalize (w9.alloc (.cells (madeCells #[.int .i64 0] n1) 2)) = w3 at *
      generalize w9.heap.size = g3 at *
      refine wpAnyH_ready (rs := [7]) (by kernel_rfl) (by simp) ?_
      refine AllReadyH.cons (o := ⟨some 11, _, _, _, _, _⟩) rfl (fun K hK => ?_) AllReadyH.nil
      go_simp
      (try go_wp2_with fail)
      refine hK.out _ _ ⟨(BB.below (hbS.alloc hbS.size _)).two.1, (BB.below (hbS.alloc hbS.size _)).two.2.1⟩ (fun hHeld => ?_)
      clear hK K
      try simp only [Act.put, List.setIfInBounds_toArray, List.set_cons_zero, List.set_cons_succ]
      have M7 := made_blk w3 n2
      have hz7 : w3.heap.size + 1 ≤ (w3.alloc (.cells (madeCells #[.int .i64 0] n2) 2)).heap.size := by simp
      replace M9 := M9.alloc (.cells (madeCells #[.int .i64 0] n2) 2)
      replace M3 := M3.alloc (.cells (madeCells #[.int .i64 0] n2) 2)
      have hy7 := hbS.size
      replace hbS := hbS.alloc hbS.size (.cells (madeCells #[.int .i64 0] n2) 2)
      generalize (w3.alloc (.cells (madeCells #[.int .i64 0] n2) 2)) = w7 at *
      generalize w3.heap.size = g7 at *
      refine wpAnyH_take (i := 8) (oi := ⟨some 12, _, _, _, _, _⟩) (v := ?_) rfl (by kernel_rfl) (by kernel_rfl) (by kernel_rfl) (fun _ _ _ h => h) (Or.inl ⟨by rfl, ?_⟩) (by assumption) ?_
      rotate_left
      · intro w hSw; (try dsimp only at hSw); go_simp; (try (with_reducible rfl))
      try simp only [Act.put, List.setIfInBounds_toArray, List.set_cons_zero, List.set_cons_succ]
      refine wpAnyH_ready (rs := [10]) (by kernel_rfl) (by simp) ?_
      refine AllReadyH.cons (o := ⟨none, _, _, _, _, _⟩) rfl (fun K hK => ?_) AllReadyH.nil
      have q0 := M9.two.1
      have q1 := M9.two.2.1
      have qf := M9.two.2.2.1
      have ql := M9.two.2.2.2
      go_simp
      (try go_wp2_with fail)
      refine hK.out _ _ ⟨(BB.below (below2n M9 hbS (by omega) _ _)).two.1, (BB.below (below2n M9 hbS (by omega) _ _)).two.2.1⟩ (fun hHeld => ?_)
      clear hK K
      try simp only [Act.put, List.setIfInBounds_toArray, List.set_cons_zero, List.set_cons_succ]
      refine wpAnyH_done (by kernel_rfl) ?_ _
      clear hHeld q0 q1 qf ql
      have hbC := below2n M9 hbS (by omega) (.slice (some ⟨g3, 0, none⟩) n1 n1) (.slice (some ⟨g7, 0, none⟩) n2 n2)
      have MC := (M9.set (i := 0) (.slice (some ⟨g3, 0, none⟩) n1 n1)).set (i := 1) (.slice (some ⟨g7, 0, none⟩) n2 n2)
      replace M3 := (M3.other (g := g9) (o := 0) (v := .slice (some ⟨g3, 0, none⟩) n1 n1) (by omega)).other (g := g9) (o := 1) (v := .slice (some ⟨g7, 0, none⟩) n2 n2) (by omega)
      replace M7 := (M7.other (g := g9) (o := 0) (v := .slice (some ⟨g3, 0, none⟩) n1 n1) (by omega)).other (g := g9) (o := 1) (v := .slice (some ⟨g7, 0, none⟩) n2 n2) (by omega)
      clear M9 hbS
      generalize ((w7.setCell ⟨g9, 0, none⟩ (.slice (some ⟨g3, 0, none⟩) n1 n1)).setCell ⟨g9, 1, none⟩ (.slice (some ⟨g7, 0, none⟩) n2 n2)) = wc at *
      have hne : g3 ≠ g7 := by omega
      have hne2 : g3 ≠ g9 := by omega
      have hne3 : g7 ≠ g9 := by omega
      have hbw := chain hb hbC
      have BBc := BB.below hbC
      have BRc := BR.below hbC
      have MC : Blk wc g9 #[.slice (some ⟨g3, 0, none⟩) n1 n1, .slice (some ⟨g7, 0, none⟩) n2 n2] 32 := MC
      clear hm1 hm2 hbC BB BR hb
      obtain ⟨x0, x1, xf, xl⟩ := BBc.two
      obtain ⟨y0, y1, yf, yl⟩ := MC.two
      go_wp2_with (first | ((with_reducible refine wp_copyI rfl (.tmp 14) (.tmp 16) rfl g3 n1 b1 o1 c1 rfl rfl M3 xs h1 (r1.below hbw) ?_); go_loud ( intro w5 R5 hk5 hB5; have hb5 := hB5 _ _ hbw (by omega); have M75 : Blk w5 g7 _ _ := (hk5 g7 (by omega)).trans M7; have MC5 : Blk w5 g9 #[.slice (some ⟨g3, 0, none⟩) n1 n1, .slice (some ⟨g7, 0, none⟩) n2 n2] 32 := (hk5 g9 (by omega)).trans MC; have BB5 : Blk w5 w.heap.size #[.slice (some ⟨b1, o1, none⟩) n1 c1, .slice (some ⟨b2, o2, none⟩) n2 c2] 32 := (hk5 w.heap.size (by omega)).trans BBc; have BR5 : Blk w5 (w.heap.size + 1) #[.slice none 0 0, .slice none 0 0] 32 := (hk5 (w.heap.size + 1) (by omega)).trans BRc; clear x0 x1 xf xl y0 y1 yf yl M3 M7 MC BBc BRc; obtain ⟨x0, x1, xf, xl⟩ := BB5.two; obtain ⟨y0, y1, yf, yl⟩ := MC5.two)) | ((with_reducible refine wp_copyI rfl (.tmp 19) (.tmp 21) rfl g7 n2 b2 o2 c2 rfl rfl M75 ys h2 (r2.below hb5) ?_); go_loud (intro w6 R6 hk6 hB6; have hb6 := hB6 _ _ hb5 (by omega); have R36 : Row w6 g3 xs := (by obtain ⟨cu, q1, q2, q3⟩ := R5; exact ⟨cu, (hk6 g3 (by omega)).trans q1, q2, q3⟩); have MC6 : Blk w6 g9 #[.slice (some ⟨g3, 0, none⟩) n1 n1, .slice (some ⟨g7, 0, none⟩) n2 n2] 32 := (hk6 g9 (by omega)).trans MC5; have BR6 : Blk w6 (w.heap.size + 1) #[.slice none 0 0, .slice none 0 0] 32 := (hk6 (w.heap.size + 1) (by omega)).trans BR5; clear x0 x1 xf xl y0 y1 yf yl R5 M75 MC5 BB5 BR5; obtain ⟨y0, y1, yf, yl⟩ := MC6.two; obtain ⟨z0, z1, zf, zl⟩ := BR6.two)))
      have MR : Blk ((w6.setCell ⟨w.heap.size + 1, 0, none⟩ (.slice (some ⟨g3, 0, none⟩) n1 n1)).setCell ⟨w.heap.size + 1, 1, none⟩ (.slice (some ⟨g7, 0, none⟩) n2 n2)) (w.heap.size + 1) #[.slice (some ⟨g3, 0, none⟩) n1 n1, .slice (some ⟨g7, 0, none⟩) n2 n2] 32 := (BR6.set (i := 0) (.slice (some ⟨g3, 0, none⟩) n1 n1)).set (i := 1) (.slice (some ⟨g7, 0, none⟩) n2 n2)
      have hbR := below2n BR6 hb6 (by omega) (.slice (some ⟨g3, 0, none⟩) n1 n1) (.slice (some ⟨g7, 0, none⟩) n2 n2)
      replace R36 := (R36.other (g := w.heap.size + 1) (o := 0) (v := .slice (some ⟨g3, 0, none⟩) n1 n1) (by omega)).other (g := w.heap.size + 1) (o := 1) (v := .slice (some ⟨g7, 0, none⟩) n2 n2) (by omega)
      replace R6 := (R6.other (g := w.heap.size + 1) (o := 0) (v := .slice (some ⟨g3, 0, none⟩) n1 n1) (by omega)).other (g := w.heap.size + 1) (o := 1) (v := .slice (some ⟨g7, 0, none⟩) n2 n2) (by omega)
      generalize ((w6.setCell ⟨w.heap.size + 1, 0, none⟩ (.slice (some ⟨g3, 0, none⟩) n1 n1)).setCell ⟨w.heap.size + 1, 1, none⟩ (.slice (some ⟨g7, 0, none⟩) n2 n2)) = we at *
      clear y0 y1 yf yl z0 z1 zf zl
      obtain ⟨z0, z1, zf, zl⟩ := MR.two
      refine bodyPost_ret (v := .agg #[.slice (some ⟨g3, 0, none⟩) n1 n1, .slice (some ⟨g7, 0, none⟩) n2 n2]) (by simp [results, Try.results46, go_sem, z0, z1]) rfl ?_
      exact ⟨g3, g7, rfl, hne, by omega, by omega, R36, R6, hbR⟩
    · go_simp
      (try go_wp2_with fail)
      refine hK.out _ _ ⟨(BB.below (hbS.alloc hbS.size _)).two.1, (BB.below (hbS.alloc hbS.size _)).two.2.1⟩ (fun hHeld => ?_)
      clear hK K
      try simp only [Act.put, List.setIfInBounds_toArray, List.set_cons_zero, List.set_cons_succ]
      have M7 := made_blk w9 n2
      have hz7 : w9.heap.size + 1 ≤ (w9.alloc (.cells (madeCells #[.int .i64 0] n2) 2)).heap.size := by simp
      replace M9 := M9.alloc (.cells (madeCells #[.int .i64 0] n2) 2)
      have hy7 := hbS.size
      replace hbS := hbS.alloc hbS.size (.cells (madeCells #[.int .i64 0] n2) 2)
      generalize (w9.alloc (.cells (madeCells #[.int .i64 0] n2) 2)) = w7 at *
      generalize w9.heap.size = g7 at *
      refine wpAnyH_ready (rs := [3]) (by kernel_rfl) (by simp) ?_
      refine AllReadyH.cons (o := ⟨some 7, _, _, _, _, _⟩) rfl (fun K hK => ?_) AllReadyH.nil
      go_simp
      (try go_wp2_with fail)
      refine hK.out _ _ ⟨(BB.below (hbS.alloc hbS.size _)).two.1, (BB.below (hbS.alloc hbS.size _)).two.2.1⟩ (fun hHeld => ?_)
      clear hK K
      try simp only [Act.put, List.setIfInBounds_toArray, List.set_cons_zero, List.set_cons_succ]
      have M3 := made_blk w7 n1
      have hz3 : w7.heap.size + 1 ≤ (w7.alloc (.cells (madeCells #[.int .i64 0] n1) 2)).heap.size := by simp
      replace M9 := M9.alloc (.cells (madeCells #[.int .i64 0] n1) 2)
      replace M7 := M7.alloc (.cells (madeCells #[.int .i64 0] n1) 2)
      have hy3 := hbS.size
      replace hbS := hbS.alloc hbS.size (.cells (madeCells #[.int .i64 0] n1) 2)
      generalize (w7.alloc (.cells (madeCells #[.int .i64 0] n1) 2)) = w3 at *
      generalize w7.heap.size = g3 at *
      refine wpAnyH_take (i := 8) (oi := ⟨some 12, _, _, _, _, _⟩) (v := ?_) rfl (by kernel_rfl) (by kernel_rfl) (by kernel_rfl) (fun _ _ _ h => h) (Or.inl ⟨by rfl, ?_⟩) (by assumption) ?_
      rotate_left
      · intro w hSw; (try dsimp only at hSw); go_simp; (try (with_reducible rfl))
      try simp only [Act.put, List.setIfInBounds_toArray, List.set_cons_zero, List.set_cons_succ]
      refine wpAnyH_ready (rs := [10]) (by kernel_rfl) (by simp) ?_
      refine AllReadyH.cons (o := ⟨none, _, _, _, _, _⟩) rfl (fun K hK => ?_) AllReadyH.nil
      have q0 := M9.two.1
      have q1 := M9.two.2.1
      have qf := M9.two.2.2.1
      have ql := M9.two.2.2.2
      go_simp
      (try go_wp2_with fail)
      refine hK.out _ _ ⟨(BB.below (below2n M9 hbS (by omega) _ _)).two.1, (BB.below (below2n M9 hbS (by omega) _ _)).two.2.1⟩ (fun hHeld => ?_)
      clear hK K
      try simp only [Act.put, List.setIfInBounds_toArray, List.set_cons_zero, List.set_cons_succ]
      refine wpAnyH_done (by kernel_rfl) ?_ _
      clear hHeld q0 q1 qf ql
      have hbC := below2n M9 hbS (by omega) (.slice (some ⟨g3, 0, none⟩) n1 n1) (.slice (some ⟨g7, 0, none⟩) n2 n2)
      have MC := (M9.set (i := 0) (.slice (some ⟨g3, 0, none⟩) n1 n1)).set (i := 1) (.slice (some ⟨g7, 0, none⟩) n2 n2)
      replace M3 := (M3.other (g := g9) (o := 0) (v := .slice (some ⟨g3, 0, none⟩) n1 n1) (by omega)).other (g := g9) (o := 1) (v := .slice (some ⟨g7, 0, none⟩) n2 n2) (by omega)
      replace M7 := (M7.other (g := g9) (o := 0) (v := .slice (some ⟨g3, 0, none⟩) n1 n1) (by omega)).other (g := g9) (o := 1) (v := .slice (some ⟨g7, 0, none⟩) n2 n2) (by omega)
      clear M9 hbS
      generalize ((w3.setCell ⟨g9, 0, none⟩ (.slice (some ⟨g3, 0, none⟩) n1 n1)).setCell ⟨g9, 1, none⟩ (.slice (some ⟨g7, 0, none⟩) n2 n2)) = wc at *
      have hne : g3 ≠ g7 := by omega
      have hne2 : g3 ≠ g9 := by omega
      have hne3 : g7 ≠ g9 := by omega
      have hbw := chain hb hbC
      have BBc := BB.below hbC
      have BRc := BR.below hbC
      have MC : Blk wc g9 #[.slice (some ⟨g3, 0, none⟩) n1 n1, .slice (some ⟨g7, 0, none⟩) n2 n2] 32 := MC
      clear hm1 hm2 hbC BB BR hb
      obtain ⟨x0, x1, xf, xl⟩ := BBc.two
      obtain ⟨y0, y1, yf, yl⟩ := MC.two
      go_wp2_with (first | ((with_reducible refine wp_copyI rfl (.tmp 14) (.tmp 16) rfl g3 n1 b1 o1 c1 rfl rfl M3 xs h1 (r1.below hbw) ?_); go_loud ( intro w5 R5 hk5 hB5; have hb5 := hB5 _ _ hbw (by omega); have M75 : Blk w5 g7 _ _ := (hk5 g7 (by omega)).trans M7; have MC5 : Blk w5 g9 #[.slice (some ⟨g3, 0, none⟩) n1 n1, .slice (some ⟨g7, 0, none⟩) n2 n2] 32 := (hk5 g9 (by omega)).trans MC; have BB5 : Blk w5 w.heap.size #[.slice (some ⟨b1, o1, none⟩) n1 c1, .slice (some ⟨b2, o2, none⟩) n2 c2] 32 := (hk5 w.heap.size (by omega)).trans BBc; have BR5 : Blk w5 (w.heap.size + 1) #[.slice none 0 0, .slice none 0 0] 32 := (hk5 (w.heap.size + 1) (by omega)).trans BRc; clear x0 x1 xf xl y0 y1 yf yl M3 M7 MC BBc BRc; obtain ⟨x0, x1, xf, xl⟩ := BB5.two; obtain ⟨y0, y1, yf, yl⟩ := MC5.two)) | ((with_reducible refine wp_copyI rfl (.tmp 19) (.tmp 21) rfl g7 n2 b2 o2 c2 rfl rfl M75 ys h2 (r2.below hb5) ?_); go_loud (intro w6 R6 hk6 hB6; have hb6 := hB6 _ _ hb5 (by omega); have R36 : Row w6 g3 xs := (by obtain ⟨cu, q1, q2, q3⟩ := R5; exact ⟨cu, (hk6 g3 (by omega)).trans q1, q2, q3⟩); have MC6 : Blk w6 g9 #[.slice (some ⟨g3, 0, none⟩) n1 n1, .slice (some ⟨g7, 0, none⟩) n2 n2] 32 := (hk6 g9 (by omega)).trans MC5; have BR6 : Blk w6 (w.heap.size + 1) #[.slice none 0 0, .slice none 0 0] 32 := (hk6 (w.heap.size + 1) (by omega)).trans BR5; clear x0 x1 xf xl y0 y1 yf yl R5 M75 MC5 BB5 BR5; obtain ⟨y0, y1, yf, yl⟩ := MC6.two; obtain ⟨z0, z1, zf, zl⟩ := BR6.two)))
      have MR : Blk ((w6.setCell ⟨w.heap.size + 1, 0, none⟩ (.slice (some ⟨g3, 0, none⟩) n1 n1)).setCell ⟨w.heap.size + 1, 1, none⟩ (.slice (some ⟨g7, 0, none⟩) n2 n2)) (w.heap.size + 1) #[.slice (some ⟨g3, 0, none⟩) n1 n1, .slice (some ⟨g7, 0, none⟩) n2 n2] 32 := (BR6.set (i := 0) (.slice (some ⟨g3, 0, none⟩) n1 n1)).set (i := 1) (.slice (some ⟨g7, 0, none⟩) n2 n2)
      have hbR := below2n BR6 hb6 (by omega) (.slice (some ⟨g3, 0, none⟩) n1 n1) (.slice (some ⟨g7, 0, none⟩) n2 n2)
      replace R36 := (R36.other (g := w.heap.size + 1) (o := 0) (v := .slice (some ⟨g3, 0, none⟩) n1 n1) (by omega)).other (g := w.heap.size + 1) (o := 1) (v := .slice (some ⟨g7, 0, none⟩) n2 n2) (by omega)
      replace R6 := (R6.other (g := w.heap.size + 1) (o := 0) (v := .slice (some ⟨g3, 0, none⟩) n1 n1) (by omega)).other (g := w.heap.size + 1) (o := 1) (v := .slice (some ⟨g7, 0, none⟩) n2 n2) (by omega)
      generalize ((w6.setCell ⟨w.heap.size + 1, 0, none⟩ (.slice (some ⟨g3, 0, none⟩) n1 n1)).setCell ⟨w.heap.size + 1, 1, none⟩ (.slice (some ⟨g7, 0, none⟩) n2 n2)) = we at *
      clear y0 y1 yf yl z0 z1 zf zl
      obtain ⟨z0, z1, zf, zl⟩ := MR.two
      refine bodyPost_ret (v := .agg #[.slice (some ⟨g3, 0, none⟩) n1 n1, .slice (some ⟨g7, 0, none⟩) n2 n2]) (by simp [results, Try.results46, go_sem, z0, z1]) rfl ?_
      exact ⟨g3, g7, rfl, hne, by omega, by omega, R36, R6, hbR⟩
end Go.Proofs.Ytodlofabffenoaa
