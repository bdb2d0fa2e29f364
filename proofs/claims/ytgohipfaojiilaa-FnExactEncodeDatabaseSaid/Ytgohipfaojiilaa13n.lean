/- Contracts of chapter 13: the model's encoding of a database. -/
import Derived.Test.Ytgohipfaojiilaa13k
import Derived.Test.Ytgohipfaojiilaa13d
import Derived.Deep.LoopGhost
namespace Go.Proofs.Ytgohipfaojiilaa
open Go.ChangeShapes Go.WideShapes Go.ChangeAt Go.RowKit
set_option linter.unusedVariables false
set_option linter.unusedSimpArgs false
set_option maxRecDepth 4000

theorem Blk.lowB {w w' : World} {g B : Nat} {vs : Array Value} {t : TypeId} (h : Blk w g vs t) (hb : Below B w w') (hg : g < B) : Blk w' g vs t := (hb.block g hg).trans h
theorem B8.Own.lowB {w w' : World} {base B : Nat} {v : Value} {xs : List Int} (h : B8.Own w base v xs) (hb : Below B w w') (hB : ∀ g, v.ownBlock = Option.some g → g < B) : B8.Own w' base v xs := by
  obtain ⟨h1, h2 | ⟨g, cap, cur, rfl, q1, q2, q3⟩⟩ := h
  · exact ⟨h1, .inl h2⟩
  · exact ⟨h1, .inr ⟨g, cap, cur, rfl, q1, (hb.block g (hB g (by simp [Value.ownBlock]))).trans q2, q3⟩⟩
theorem B8.Own.some {w : World} {base : Nat} {v : Value} {xs : List Int} (h : B8.Own w base v xs) (hx : xs ≠ []) : ∃ g k, v = .slice (Option.some ⟨g, 0, none⟩) xs.length k := by
  rcases h.2 with ⟨h1, h2⟩ | ⟨g, cap, cur, h1, hb, hh, hc, _⟩
  · exact absurd (List.eq_nil_of_length_eq_zero h2) hx
  · exact ⟨g, cap, h1⟩
theorem u8_mod (x : Int) : IntKind.u8.wrap x = x % 256 := by simp [IntKind.wrap, IntKind.bits, IntKind.signed]
theorem hdL_mod (p c h s kd : Int) : hdL p c h s kd = [66, 71, 68, 1, p % 256, c % 256, h % 256, s % 256, kd % 256] := by simp [hdL, u8_mod]
theorem hd_own (w : World) (p c h s kd : Int) : B8.Own (w.alloc (.cells #[.int .u8 66, .int .u8 71, .int .u8 68, .int .u8 1, .int .u8 (p % 256), .int .u8 (c % 256), .int .u8 (h % 256), .int .u8 (s % 256), .int .u8 (kd % 256)] 5)) w.heap.size (.slice (Option.some ⟨w.heap.size, 0, none⟩) 9 9) (hdL p c h s kd) := by
  rw [hdL_mod]
  exact ⟨rfl, .inr ⟨w.heap.size, 9, #[.int .u8 66, .int .u8 71, .int .u8 68, .int .u8 1, .int .u8 (p % 256), .int .u8 (c % 256), .int .u8 (h % 256), .int .u8 (s % 256), .int .u8 (kd % 256)], rfl, Nat.le_refl _, Blk.new w _ _, Nat.le_refl _, by unfold maxLen; omega, rfl, rfl⟩⟩
theorem four_new (w : World) (c1 c2 c3 c4 : Array Value) (t1 t2 t3 t4 : TypeId) : Blk ((((w.alloc (.cells c1 t1)).alloc (.cells c2 t2)).alloc (.cells c3 t3)).alloc (.cells c4 t4)) w.heap.size c1 t1 ∧ Below w.heap.size w ((((w.alloc (.cells c1 t1)).alloc (.cells c2 t2)).alloc (.cells c3 t3)).alloc (.cells c4 t4)) ∧ ((((w.alloc (.cells c1 t1)).alloc (.cells c2 t2)).alloc (.cells c3 t3)).alloc (.cells c4 t4)).heap.size = w.heap.size + 4 ∧ (((w.alloc (.cells c1 t1)).alloc (.cells c2 t2)).alloc (.cells c3 t3)).heap.size = w.heap.size + 3 ∧ ((w.alloc (.cells c1 t1)).alloc (.cells c2 t2)).heap.size = w.heap.size + 2 :=
  ⟨(((Blk.new w c1 t1).alloc _).alloc _).alloc _, ((((Below.refl _ _).alloc (Nat.le_refl _) _).alloc (by simp) _).alloc (by simp; omega) _).alloc (by simp; omega) _, by simp, by simp, by simp⟩
set_option maxRecDepth 8000 in
set_option maxHeartbeats 4000000 in
theorem l13Encode_any (p c h s kd : Int) (a : Option Addr) (k : Nat) (L : List Rl) (w : World) (hle : L.length ≤ 2500) (hne : L ≠ []) (hrg : Rng L) (HO : OX w a L) :
    Calls Try.prog 20 #[.agg #[.int .i64 p, .int .i64 c, .int .i64 h, .int .i64 s, .int .i64 kd, .slice a L.length k]] w (B8.OwnGot (encL p c h s kd L) w) := by
  obtain ⟨hbl, hel⟩ := enB_len (p := p) (c := c) (h := h) (s := s) (kd := kd) hle hrg
  have HRG := Lib.hid hrg
  have HOX := Lib.hid HO
  obtain ⟨BD, hb, hz4, hz3, hz2⟩ := four_new w #[.int .i64 p, .int .i64 c, .int .i64 h, .int .i64 s, .int .i64 kd, .slice a L.length k] #[.int .i64 p, .int .i64 c, .int .i64 h, .int .i64 s] #[.int .u8 66, .int .u8 71, .int .u8 68, .int .u8 1, .int .u8 (p % 256), .int .u8 (c % 256), .int .u8 (h % 256), .int .u8 (s % 256), .int .u8 (kd % 256)] #[] 34 31 5 5
  have hO9 := (hd_own ((w.alloc (.cells #[.int .i64 p, .int .i64 c, .int .i64 h, .int .i64 s, .int .i64 kd, .slice a L.length k] 34)).alloc (.cells #[.int .i64 p, .int .i64 c, .int .i64 h, .int .i64 s] 31)) p c h s kd).alloc (.cells #[] 5)
  have hS := B8.Own.start (((w.alloc (.cells #[.int .i64 p, .int .i64 c, .int .i64 h, .int .i64 s, .int .i64 kd, .slice a L.length k] 34)).alloc (.cells #[.int .i64 p, .int .i64 c, .int .i64 h, .int .i64 s] 31)).alloc (.cells #[.int .u8 66, .int .u8 71, .int .u8 68, .int .u8 1, .int .u8 (p % 256), .int .u8 (c % 256), .int .u8 (h % 256), .int .u8 (s % 256), .int .u8 (kd % 256)] 5))
  rw [hz2] at hO9
  rw [hz3] at hS
  clear HO hrg hz2 hz3
  have B0 := Blk.new w #[.int .i64 p, .int .i64 c, .int .i64 h, .int .i64 s, .int .i64 kd, .slice a L.length k] 34
  obtain ⟨x0, x1, x2, x3, x4, x5, xf, xl⟩ := B0.six
  go_enter Try.func20, Try.ntmps20
  go_wp2_with fail
  clear x0 x1 x2 x3 x4 x5 xf xl B0
  generalize hv0 : ((((w.alloc (.cells #[.int .i64 p, .int .i64 c, .int .i64 h, .int .i64 s, .int .i64 kd, .slice a L.length k] 34)).alloc (.cells #[.int .i64 p, .int .i64 c, .int .i64 h, .int .i64 s] 31)).alloc (.cells #[.int .u8 66, .int .u8 71, .int .u8 68, .int .u8 1, .int .u8 (p % 256), .int .u8 (c % 256), .int .u8 (h % 256), .int .u8 (s % 256), .int .u8 (kd % 256)] 5)).alloc (.cells #[] 5)) = v0 at *
  have hleI : (L.length : Int) ≤ 2500 := by omega
  go_loopg [5, 6] L.length (fun m v j wr => ∃ i : Nat, i ≤ L.length ∧ m = L.length - i ∧ j = .int .i64 (i : Int) ∧ B8.Own wr (w.heap.size + 3) v (blkL (L.take i)) ∧ Below (w.heap.size + 3) v0 wr)
  case atStart => exact ⟨0, by omega, by omega, rfl, by simpa [blkL] using hS, Below.refl _ _⟩
  case round =>
    clear hS
    obtain ⟨i, hi, hm, rfl, hO, hbv⟩ := hrel
    have BDr := BD.lowB hbv (by omega)
    have hsr := hbv.size
    have hbw : Below w.heap.size w wr := hb.trans (hbv.mono (by omega))
    obtain ⟨aV, kV, rfl⟩ := hO.form
    by_cases hlt : i < L.length
    · have hlt' : (i : Int) < (L.length : Int) := by omega
      have i0 : (0 : Int) ≤ (i : Int) := by omega
      obtain ⟨⟨xn, xd⟩, hx⟩ : ∃ x, L[i]? = some x := ⟨_, List.getElem?_eq_getElem hlt⟩
      have hxr := HRG.out _ (List.mem_of_getElem? hx)
      obtain ⟨g0, rfl, XR⟩ := (HOX.out.below hbw).row hlt
      obtain ⟨u0, u1⟩ := XRow.two XR i (xn, xd) hx
      dsimp only at u0 u1 hxr
      have hbt := blkL_take L i _ hx
      have hbi : (blkL (L.take i)).length ≤ 25000 := by
        have := blkL_len (L := L.take i) (fun r hr => HRG.out r (List.mem_of_mem_take hr))
        rw [List.length_take] at this
        omega
      obtain ⟨hz1, hz2⟩ := gr_len9 hxr
      obtain ⟨D, hD⟩ : ∃ D, blkL (L.take i) = D := ⟨_, rfl⟩
      rw [hD] at hbt hbi hO
      (try rw [hD])
      have hbt2 : blkL (L.take (i + 1)) = D ++ [xd % 256] ++ gr (fdN xn) := by rw [hbt, eb, u8_mod]; simp
      have HBT := Lib.hid hbt2
      have BX := Blk.new wr #[.int .i64 xn, .int .i64 xd] 66
      have hal : Below wr.heap.size wr (wr.alloc (.cells #[.int .i64 xn, .int .i64 xd] 66)) := (Below.refl _ _).alloc (Nat.le_refl _) _
      have hvs : (wr.alloc (.cells #[.int .i64 xn, .int .i64 xd] 66)).heap.size = wr.heap.size + 1 := by simp
      have hO1 := hO.kept hal
      have hbv1 : Below (w.heap.size + 3) v0 (wr.alloc (.cells #[.int .i64 xn, .int .i64 xd] 66)) := hbv.trans (hal.mono (by omega))
      obtain ⟨x0, x1, x2, x3, x4, x5, xf, xl⟩ := BDr.six
      have HX1 := Lib.hid BX
      obtain ⟨Z0, hZ0⟩ : ∃ x, fdN xn = x := ⟨_, rfl⟩
      rw [hZ0] at hz1 hz2 hbt2
      have hZ0' : (xn < 0 ∧ (Z0 : Int) = -2 * xn - 1) ∨ (¬ xn < 0 ∧ (Z0 : Int) = 2 * xn) := by
        by_cases q : xn < 0
        · exact .inl ⟨q, by rw [← hZ0]; exact fdN_neg q⟩
        · exact .inr ⟨q, by rw [← hZ0]; exact fdN_pos q⟩
      have HZ0 := Lib.hid hZ0
      clear hal hx hbt hbt2 XR hO hD hZ0
      rcases hZ0' with ⟨g, e⟩ | ⟨g, e⟩
      · have w1 : IntKind.i64.wrap (2 * xn) = 2 * xn := IntWalk.i64_in _ (by omega)
        have w2 : IntKind.i64.wrap (-2 * xn) = -2 * xn := IntWalk.i64_in _ (by omega)
        have w3 : IntKind.i64.wrap (-2 * xn - 1) = (Z0 : Int) := by rw [IntWalk.i64_in _ (by omega), e]
        clear e
        obtain ⟨y0, y1, yf, yl⟩ := HX1.out.two
        go_wp2_with (at_builtin; refine B8.wp_push rfl (.tmp 51) (.tmp 55) rfl (w.heap.size + 3) _ D rfl hO1 (xd % 256) (by rw [hvs]; rfl) (by omega) (by rw [hvs]; omega) ?_; intro v2 w6 hO6 hb6)
        clear y0 y1 yf yl
        have hbv6 := hbv1.trans hb6
        clear hb6 hbv1 hO1 HX1 u0 u1 x0 x1 x2 x3 x4 x5 xf xl BDr
        obtain ⟨aW, kW, hvW⟩ := hO6.form
        rw [show (D ++ [xd % 256]).length = D.length + 1 by simp] at hvW
        subst hvW
        go_loopg [5, 8] Z0 (fun m v z wq => ∃ (Z : Nat) (F : List Int), m = Z ∧ z = .int .i64 (Z : Int) ∧ Z ≤ Z0 ∧ B8.Own wq (w.heap.size + 3) v (D ++ [xd % 256] ++ F) ∧ F ++ gr Z = gr Z0 ∧ Below (w.heap.size + 3) v0 wq)
        case atStart => exact ⟨Z0, [], rfl, rfl, Nat.le_refl _, by simpa using hO6, by simp, hbv6⟩
        case round =>
          clear hO6 hbv6
          obtain ⟨Z, F, hm2, rfl, hzle, hO6, hF, hbv6⟩ := hrel
          obtain ⟨aW, kW, rfl⟩ := hO6.form
          have hsq := hbv6.size
          have hFl : F.length ≤ 9 := by
            have := congrArg List.length hF
            simp only [List.length_append] at this
            omega
          have hFL : (D ++ [xd % 256] ++ F).length ≤ 1048576 := by simp only [List.length_append, List.length_cons, List.length_nil]; omega
          have HFL := Lib.hid hFL
          by_cases hlz : 128 ≤ Z
          · have hlI : (128 : Int) ≤ (Z : Int) := by omega
            rw [gr_big hlz] at hF
            obtain ⟨Q, hQ⟩ : ∃ Q, Z % 128 + 128 = Q := ⟨_, rfl⟩
            obtain ⟨R, hR⟩ : ∃ R, Z % 128 = R := ⟨_, rfl⟩
            obtain ⟨Z2, hZ2⟩ : ∃ Q, Z / 128 = Q := ⟨_, rfl⟩
            have t1 : (Z : Int).tmod 128 = (R : Int) := by rw [← hR]; exact (Int.ofNat_tmod Z 128).symm
            have t2 : IntKind.i64.wrap (128 + (R : Int)) = (Q : Int) := by rw [IntWalk.i64_in _ (by omega)]; omega
            have t3 : IntKind.u8.wrap (Q : Int) = (Q : Int) := IntWalk.u8_in _ (by omega)
            have t4 : (Z : Int).tdiv 128 = (Z2 : Int) := by rw [← hZ2]; exact (Int.ofNat_tdiv Z 128).symm
            have t5 : IntKind.i64.wrap (Z2 : Int) = (Z2 : Int) := IntWalk.i64_in _ (by omega)
            rw [hQ, hZ2] at hF
            have HF := Lib.hid hF
            have hlt2 : Z2 < Z := by omega
            clear hF hQ hR hZ2 hFL hFl
            go_wp2_with (at_builtin; refine B8.wp_push rfl (.tmp 59) (.tmp 64) rfl (w.heap.size + 3) _ (D ++ [xd % 256] ++ F) rfl hO6 (Q : Int) rfl HFL.out (by omega) ?_; intro v2 w7 hO7 hb7)
            go_roundg Z2
            case measure => omega
            case rel => exact ⟨Z2, F ++ [(Q : Int)], rfl, rfl, by omega, by rw [← List.append_assoc]; exact hO7, by rw [← HF.out]; simp, hbv6.trans hb7⟩
          · have hlI : ¬ (128 : Int) ≤ (Z : Int) := by omega
            rw [gr_small hlz] at hF
            have t3 : IntKind.u8.wrap (Z : Int) = (Z : Int) := IntWalk.u8_in _ (by omega)
            have HF := Lib.hid hF
            clear hF hFL hFl
            go_wp2_with (at_builtin; refine B8.wp_push rfl (.tmp 68) (.tmp 71) rfl (w.heap.size + 3) _ (D ++ [xd % 256] ++ F) rfl hO6 (Z : Int) rfl HFL.out (by omega) ?_; intro v2 w7 hO7 hb7)
            go_roundg (L.length - (i + 1))
            case measure => omega
            case rel => exact ⟨i + 1, by omega, rfl, by go_num, by rw [HBT.out, HZ0.out, ← HF.out, ← List.append_assoc]; exact hO7, hbv6.trans hb7⟩
      · have w3 : IntKind.i64.wrap (2 * xn) = (Z0 : Int) := by rw [IntWalk.i64_in _ (by omega), e]
        clear e
        obtain ⟨y0, y1, yf, yl⟩ := HX1.out.two
        go_wp2_with (at_builtin; refine B8.wp_push rfl (.tmp 51) (.tmp 55) rfl (w.heap.size + 3) _ D rfl hO1 (xd % 256) (by rw [hvs]; rfl) (by omega) (by rw [hvs]; omega) ?_; intro v2 w6 hO6 hb6)
        clear y0 y1 yf yl
        have hbv6 := hbv1.trans hb6
        clear hb6 hbv1 hO1 HX1 u0 u1 x0 x1 x2 x3 x4 x5 xf xl BDr
        obtain ⟨aW, kW, hvW⟩ := hO6.form
        rw [show (D ++ [xd % 256]).length = D.length + 1 by simp] at hvW
        subst hvW
        go_loopg [5, 8] Z0 (fun m v z wq => ∃ (Z : Nat) (F : List Int), m = Z ∧ z = .int .i64 (Z : Int) ∧ Z ≤ Z0 ∧ B8.Own wq (w.heap.size + 3) v (D ++ [xd % 256] ++ F) ∧ F ++ gr Z = gr Z0 ∧ Below (w.heap.size + 3) v0 wq)
        case atStart => exact ⟨Z0, [], rfl, rfl, Nat.le_refl _, by simpa using hO6, by simp, hbv6⟩
        case round =>
          clear hO6 hbv6
          obtain ⟨Z, F, hm2, rfl, hzle, hO6, hF, hbv6⟩ := hrel
          obtain ⟨aW, kW, rfl⟩ := hO6.form
          have hsq := hbv6.size
          have hFl : F.length ≤ 9 := by
            have := congrArg List.length hF
            simp only [List.length_append] at this
            omega
          have hFL : (D ++ [xd % 256] ++ F).length ≤ 1048576 := by simp only [List.length_append, List.length_cons, List.length_nil]; omega
          have HFL := Lib.hid hFL
          by_cases hlz : 128 ≤ Z
          · have hlI : (128 : Int) ≤ (Z : Int) := by omega
            rw [gr_big hlz] at hF
            obtain ⟨Q, hQ⟩ : ∃ Q, Z % 128 + 128 = Q := ⟨_, rfl⟩
            obtain ⟨R, hR⟩ : ∃ R, Z % 128 = R := ⟨_, rfl⟩
            obtain ⟨Z2, hZ2⟩ : ∃ Q, Z / 128 = Q := ⟨_, rfl⟩
            have t1 : (Z : Int).tmod 128 = (R : Int) := by rw [← hR]; exact (Int.ofNat_tmod Z 128).symm
            have t2 : IntKind.i64.wrap (128 + (R : Int)) = (Q : Int) := by rw [IntWalk.i64_in _ (by omega)]; omega
            have t3 : IntKind.u8.wrap (Q : Int) = (Q : Int) := IntWalk.u8_in _ (by omega)
            have t4 : (Z : Int).tdiv 128 = (Z2 : Int) := by rw [← hZ2]; exact (Int.ofNat_tdiv Z 128).symm
            have t5 : IntKind.i64.wrap (Z2 : Int) = (Z2 : Int) := IntWalk.i64_in _ (by omega)
            rw [hQ, hZ2] at hF
            have HF := Lib.hid hF
            have hlt2 : Z2 < Z := by omega
            clear hF hQ hR hZ2 hFL hFl
            go_wp2_with (at_builtin; refine B8.wp_push rfl (.tmp 59) (.tmp 64) rfl (w.heap.size + 3) _ (D ++ [xd % 256] ++ F) rfl hO6 (Q : Int) rfl HFL.out (by omega) ?_; intro v2 w7 hO7 hb7)
            go_roundg Z2
            case measure => omega
            case rel => exact ⟨Z2, F ++ [(Q : Int)], rfl, rfl, by omega, by rw [← List.append_assoc]; exact hO7, by rw [← HF.out]; simp, hbv6.trans hb7⟩
          · have hlI : ¬ (128 : Int) ≤ (Z : Int) := by omega
            rw [gr_small hlz] at hF
            have t3 : IntKind.u8.wrap (Z : Int) = (Z : Int) := IntWalk.u8_in _ (by omega)
            have HF := Lib.hid hF
            clear hF hFL hFl
            go_wp2_with (at_builtin; refine B8.wp_push rfl (.tmp 68) (.tmp 71) rfl (w.heap.size + 3) _ (D ++ [xd % 256] ++ F) rfl hO6 (Z : Int) rfl HFL.out (by omega) ?_; intro v2 w7 hO7 hb7)
            go_roundg (L.length - (i + 1))
            case measure => omega
            case rel => exact ⟨i + 1, by omega, rfl, by go_num, by rw [HBT.out, HZ0.out, ← HF.out, ← List.append_assoc]; exact hO7, hbv6.trans hb7⟩
    · obtain rfl : i = L.length := by omega
      rw [List.take_length] at hO
      (try rw [List.take_length])
      have hbne : blkL L ≠ [] := by
        cases hL : L with
        | nil => exact absurd hL hne
        | cons r t => simp [blkL, eb]
      obtain ⟨bl, hbl2⟩ : ∃ bl, blkL L = bl := ⟨_, rfl⟩
      have h8 : Bys bl := by rw [← hbl2]; exact bys_blkL L
      have hpk : pk bl ≠ [] := by rw [← hbl2, pk_step _ hbne]; simp
      have henc : encL p c h s kd L = hdL p c h s kd ++ pk bl ++ [ckS (hdL p c h s kd ++ pk bl) / 256, ckS (hdL p c h s kd ++ pk bl) % 256] := by rw [encL, enB, hbl2]
      have hb8e : Bys (hdL p c h s kd ++ pk bl) := by have := bys_enB p c h s kd L; rwa [enB, hbl2] at this
      have hlen : (hdL p c h s kd ++ pk bl).length ≤ 50009 := by rw [← hbl2]; exact hel
      have hplen : (pk bl).length ≤ 50000 := by
        have := pk_len _ bl rfl
        rw [← hbl2] at this ⊢
        omega
      rw [hbl2] at hO hbl
      (try rw [hbl2])
      have HENC := Lib.hid henc
      have HPK := Lib.hid (l13Pack_any aV bl.length kV bl wr rfl (by omega) h8 hO.osl.irow)
      have hO9r := hO9.lowB hbv (by simp [Value.ownBlock])
      clear hbl2 henc HRG HOX hO9 hbne hO
      obtain ⟨x0, x1, x2, x3, x4, x5, xf, xl⟩ := BDr.six
      go_wp2_with fail
      clear x0 x1 x2 x3 x4 x5 xf xl
      refine HPK.out.mono ?_
      rintro e w5 ⟨v5, rfl, hO5, hb5⟩
      clear HPK
      obtain ⟨g5, k5, rfl⟩ := hO5.some hpk
      have hO10 := hO9r.kept hb5
      have hbw5 := chain hbw hb5
      have hs5 := hb5.size
      have hrow := hO5.osl.irow
      have hh9 : (hdL p c h s kd).length = 9 := by simp [hdL]
      obtain ⟨pkb, hpkb⟩ : ∃ x, pk bl = x := ⟨_, rfl⟩
      rw [hpkb] at hrow hplen hlen hb8e HENC
      (try rw [hpkb])
      obtain ⟨np, hnp⟩ : ∃ x, pkb.length = x := ⟨_, rfl⟩
      (try rw [hnp])
      clear hpkb hO5 hpk h8 hb5 hO9r
      go_wp2_with (at_builtin; refine wp_pushAll8 rfl (.tmp 73) (.tmp 75) rfl (w.heap.size + 2) _ (hdL p c h s kd) rfl hO10 g5 0 pkb np k5 rfl hnp hrow (by omega) (by omega) ?_; intro v6 w6 hO6 hb6 hk6; obtain ⟨a6, k6, rfl⟩ := hO6.form)
      have hen6 : (hdL p c h s kd ++ pkb).length = 9 + np := by rw [List.length_append, hh9, hnp]
      obtain ⟨en, hen⟩ : ∃ en, hdL p c h s kd ++ pkb = en := ⟨_, rfl⟩
      rw [hen] at hO6 hlen hb8e HENC hen6
      rw [hen6] at hO6
      have HCK := Lib.hid (specCheckSum_any a6 (9 + np) k6 en w6 hen6 (by omega) hb8e hO6.osl.irow)
      have hbw6 : Below w.heap.size w w6 := hbw5.trans (hb6.mono (by omega))
      have hs6 := hb6.size
      have HLEN6 := Lib.hid (show en.length ≤ 10000000 by omega)
      clear hen hh9 hnp hb6 hk6 hlen hen6 hrow hO10
      refine HCK.out.mono ?_
      rintro e w7 ⟨rfl, rfl⟩
      clear HCK
      obtain ⟨s0, s1⟩ := ckS_bnd en
      obtain ⟨S, hS⟩ : ∃ S, ckS en = S := ⟨_, rfl⟩
      rw [hS] at s0 s1 HENC
      (try rw [hS])
      obtain ⟨Hi, hHi⟩ : ∃ x, S / 256 = x := ⟨_, rfl⟩
      obtain ⟨Lo, hLo⟩ : ∃ x, S % 256 = x := ⟨_, rfl⟩
      have t1 : S.tdiv 256 = Hi := by rw [← hHi]; exact Int.tdiv_eq_ediv_of_nonneg s0
      have t2 : S.tmod 256 = Lo := by rw [← hLo]; exact Int.tmod_eq_emod_of_nonneg s0
      have t3 : IntKind.i64.wrap Hi = Hi := IntWalk.i64_in _ (by omega)
      have t4 : IntKind.u8.wrap Hi = Hi := IntWalk.u8_in _ (by omega)
      have t5 : IntKind.u8.wrap Lo = Lo := IntWalk.u8_in _ (by omega)
      rw [hHi, hLo] at HENC
      clear hHi hLo hS
      go_wp2_with (at_builtin; refine wp_push28 rfl (.tmp 79) (.tmp 86) rfl (w.heap.size + 2) _ en rfl hO6 Hi Lo rfl HLEN6.out (by omega) ?_; intro v8 w8 hO8 hb8)
      go_ret
      exact ⟨_, rfl, by rw [HENC.out]; exact hO8.mono (by omega), hbw6.trans (hb8.mono (by omega))⟩
end Go.Proofs.Ytgohipfaojiilaa
