/- The model's draws of chapter 16: rules of the cube, a cube. -/
import Derived.Test.YtkcjbjkccafekaaDoor16a
import Derived.Test.YtkcjbjkccafekaaDoorSrc2
import Derived.Test.YtkcjbjkccafekaaDoorSrc3
import Derived.Deep.Cut
import Derived.Laws.StructEq
namespace Go.Proofs.YtkcjbjkccafekaaDoor
open Go.ChangeShapes Go.WideShapes Go.ChangeAt Go.RowKit
set_option linter.unusedVariables false
set_option linter.unusedSimpArgs false
set_option maxRecDepth 4000

theorem wpAnyH_more {P : Program} {ops : Array Oper} {Q : Exit → Act → World → Prop} {md : Region.Mode} {S S' : World → Prop} (h : ∀ w, S' w → S w) : ∀ {fuel : Nat} {listed : Array Bool} {a : Act} {w : World}, wpAnyH P md ops Q S' fuel listed a w → wpAnyH P md ops Q S fuel listed a w
  | 0, _, _, _, hh => hh
  | _ + 1, _, _, _, hh => ⟨hh.1, fun i hi => wpOp_mono (fun _ _ q => ⟨h _ q.1, wpAnyH_more h q.2⟩) (hh.2 i hi)⟩
theorem get7 (k : Nat) (h : k < 7) : ∃ X : Int, (#[.int .i64 1, .int .i64 2, .int .i64 4, .int .i64 8, .int .i64 16, .int .i64 64, .int .i64 1024] : Array Value)[k]? = some (.int .i64 X) := by
  rcases (by omega : k = 0 ∨ k = 1 ∨ k = 2 ∨ k = 3 ∨ k = 4 ∨ k = 5 ∨ k = 6) with rfl | rfl | rfl | rfl | rfl | rfl | rfl <;> exact ⟨_, rfl⟩
theorem get6 (k : Nat) (h : k < 6) : ∃ X : Int, (#[.int .i64 0, .int .i64 1, .int .i64 2, .int .i64 3, .int .i64 4, .int .i64 2048] : Array Value)[k]? = some (.int .i64 X) := by
  rcases (by omega : k = 0 ∨ k = 1 ∨ k = 2 ∨ k = 3 ∨ k = 4 ∨ k = 5) with rfl | rfl | rfl | rfl | rfl | rfl <;> exact ⟨_, rfl⟩
theorem get4 (k : Nat) (h : k < 4) : ∃ X : Int, (#[.int .i64 0, .int .i64 3, .int .i64 2048, .int .i64 (-4)] : Array Value)[k]? = some (.int .i64 X) := by
  rcases (by omega : k = 0 ∨ k = 1 ∨ k = 2 ∨ k = 3) with rfl | rfl | rfl | rfl <;> exact ⟨_, rfl⟩
/-- Rules have been drawn. -/
def RulesPost (B g : Nat) (a : Option Addr) (len cap : Nat) (w : World) (e : Ending) (w' : World) : Prop :=
  ∃ (m : Int) (x y : Bool), e = .returned (.agg #[.int .i64 m, .bool x, .bool y]) ∧ Src B w' g a len cap ∧ w.grownBy w' (some g)
set_option maxRecDepth 8000 in
set_option maxHeartbeats 2000000 in
theorem drawRules16_any (B g : Nat) (a : Option Addr) (len cap : Nat) (w : World) (hS : Src B w g a len cap) :
    Calls Tryd.prog 32 #[.pointer (some ⟨g, 0, none⟩)] w (RulesPost B g a len cap w) := by
  have hgl := hS.lt
  have hBg := hS.base
  have BZ := Blk.new w #[.int .i64 0, .bool false, .bool false] 37
  replace hS := hS.alloc (.cells #[.int .i64 0, .bool false, .bool false] 37)
  have hG : w.grownBy (w.alloc (.cells #[.int .i64 0, .bool false, .bool false] 37)) (some g) := World.grownBy_alloc w _ _
  go_enter Tryd.func32, Tryd.ntmps32
  go_upto_region 1 with (fail)
  generalize (w.alloc (.cells #[.int .i64 0, .bool false, .bool false] 37)) = v0 at *
  go_cut [3] from 4 (fun q3 wr => ∃ (bY : Nat) (M : Int) (x y : Bool), q3 = .pointer (some ⟨bY, 0, none⟩) ∧ Blk wr bY #[.int .i64 M, .bool x, .bool y] 37 ∧ Blk wr w.heap.size #[.int .i64 0, .bool false, .bool false] 37 ∧ Src B wr g a len cap ∧ w.grownBy wr (some g) ∧ w.heap.size < bY)
  case first =>
    refine wp_region_held_drew (S := fun _ => True) (by kernel_rfl) trivial (fun hHeld => ?_)
    clear hHeld
    replace BZ := BZ.drew
    replace hS := hS.drew
    replace hG := grown_drew hG
    generalize v0.drew = vd at *
    have hHeld : True := trivial
    refine tk 1 5 ?_
    refine tk 5 9 ?_
    refine tk 8 12 ?_
    refine wpAnyH_ready (rs := [0, 2, 12]) (by kernel_rfl) (by simp) ?_
    refine AllReadyH.cons (o := { dst := some 4, op := _, type := _, pos := _, after := _, guard := _ }) rfl (fun K hK => ?_) (AllReadyH.cons (o := { dst := some 6, op := _, type := _, pos := _, after := _, guard := _ }) rfl (fun K hK => ?_) (AllReadyH.cons (o := { dst := some 3, op := _, type := _, pos := _, after := _, guard := _ }) rfl (fun K hK => ?_) AllReadyH.nil))
    · go_simp
      (try go_wp2_with fail)
      refine hko hK trivial fun hHeld => ?_
      clear hK K
      have BX := Blk.new vd #[.int .i64 1, .int .i64 2, .int .i64 4, .int .i64 8, .int .i64 16, .int .i64 64, .int .i64 1024] 2
      have hz_bx : w.heap.size < vd.heap.size := BZ.lt
      have hg_bx : g < vd.heap.size := hS.lt
      replace BZ := BZ.alloc (.cells #[.int .i64 1, .int .i64 2, .int .i64 4, .int .i64 8, .int .i64 16, .int .i64 64, .int .i64 1024] 2)
      replace hS := hS.alloc (.cells #[.int .i64 1, .int .i64 2, .int .i64 4, .int .i64 8, .int .i64 16, .int .i64 64, .int .i64 1024] 2)
      replace hG := grown_alloc hG (.cells #[.int .i64 1, .int .i64 2, .int .i64 4, .int .i64 8, .int .i64 16, .int .i64 64, .int .i64 1024] 2)
      generalize vd.alloc (.cells #[.int .i64 1, .int .i64 2, .int .i64 4, .int .i64 8, .int .i64 16, .int .i64 64, .int .i64 1024] 2) = wX at *
      generalize vd.heap.size = bx at *
      refine wpAnyH_ready (rs := [2, 12]) (by kernel_rfl) (by simp) ?_
      refine AllReadyH.cons (o := { dst := some 6, op := _, type := _, pos := _, after := _, guard := _ }) rfl (fun K hK => ?_) (AllReadyH.cons (o := { dst := some 3, op := _, type := _, pos := _, after := _, guard := _ }) rfl (fun K hK => ?_) AllReadyH.nil)
      · go_simp
        refine (next_any B g a len cap 7 _ hS (by omega)).mono ?_
        rintro e w_r2 ⟨r2, rfl, q_r2, u_r2, hS, hg⟩
        replace BZ := BZ.grown hg (by omega)
        replace BX := BX.grown hg (by omega)
        replace hG := grown_trans hG hg
        clear hg
        obtain ⟨k, rfl⟩ := Int.eq_ofNat_of_zero_le q_r2
        have hk : k < 7 := by omega
        have hk1 : (k : Int) < 7 := by omega
        have hk0 : (0 : Int) ≤ (k : Int) := by omega
        obtain ⟨M, hget⟩ := get7 k hk
        (try go_wp2_with fail)
        refine hko hK trivial fun hHeld => ?_
        clear hK K
        refine tk 3 7 ?_
        refine wpAnyH_more (S' := fun w' => True ∧ w'.cell? ⟨bx, k, none⟩ = some (.int .i64 M)) (fun _ h => h.1) ?_
        have hHeld0 := hHeld
        clear hHeld
        have hHeld := (⟨trivial, (BX.cell _).trans hget⟩ : True ∧ _)
        clear hHeld0
        refine tk 4 8 ?_
        refine wpAnyH_ready (rs := [6, 12]) (by kernel_rfl) (by simp) ?_
        refine AllReadyH.cons (o := { dst := some 10, op := _, type := _, pos := _, after := _, guard := _ }) rfl (fun K hK => ?_) (AllReadyH.cons (o := { dst := some 3, op := _, type := _, pos := _, after := _, guard := _ }) rfl (fun K hK => ?_) AllReadyH.nil)
        · go_simp
          refine (next_any B g a len cap 2 _ hS (by omega)).mono ?_
          rintro e w_r6 ⟨r6, rfl, q_r6, u_r6, hS, hg⟩
          replace BZ := BZ.grown hg (by omega)
          replace BX := BX.grown hg (by omega)
          replace hG := grown_trans hG hg
          clear hg
          have wz6 : IntKind.i64.wrap (r6 - 1) = r6 - 1 := IntWalk.i64_in _ (by omega)
          (try go_wp2_with fail)
          refine hko hK ⟨trivial, (BX.cell _).trans hget⟩ fun hHeld => ?_
          clear hK K
          refine tk 7 11 ?_
          refine wpAnyH_ready (rs := [9, 12]) (by kernel_rfl) (by simp) ?_
          refine AllReadyH.cons (o := { dst := some 13, op := _, type := _, pos := _, after := _, guard := _ }) rfl (fun K hK => ?_) (AllReadyH.cons (o := { dst := some 3, op := _, type := _, pos := _, after := _, guard := _ }) rfl (fun K hK => ?_) AllReadyH.nil)
          · go_simp
            refine (next_any B g a len cap 2 _ hS (by omega)).mono ?_
            rintro e w_r9 ⟨r9, rfl, q_r9, u_r9, hS, hg⟩
            replace BZ := BZ.grown hg (by omega)
            replace BX := BX.grown hg (by omega)
            replace hG := grown_trans hG hg
            clear hg
            have wz9 : IntKind.i64.wrap (r9 - 1) = r9 - 1 := IntWalk.i64_in _ (by omega)
            (try go_wp2_with fail)
            refine hko hK ⟨trivial, (BX.cell _).trans hget⟩ fun hHeld => ?_
            clear hK K
            refine tk 10 14 ?_
            refine tk 11 15 ?_
            refine rdk 12 3 fun K hK => ?_
            go_simp
            (try go_wp2_with fail)
            refine hko hK ⟨trivial, ((BX.alloc (.cells #[.int .i64 0, .bool false, .bool false] 37)).cell _).trans hget⟩ fun hHeld => ?_
            clear hK K
            have BY := Blk.new w_r9 #[.int .i64 0, .bool false, .bool false] 37
            have hz_by_ : w.heap.size < w_r9.heap.size := BZ.lt
            have hg_by_ : g < w_r9.heap.size := hS.lt
            have hx_by_ : bx < w_r9.heap.size := BX.lt
            replace BZ := BZ.alloc (.cells #[.int .i64 0, .bool false, .bool false] 37)
            replace BX := BX.alloc (.cells #[.int .i64 0, .bool false, .bool false] 37)
            replace hS := hS.alloc (.cells #[.int .i64 0, .bool false, .bool false] 37)
            replace hG := grown_alloc hG (.cells #[.int .i64 0, .bool false, .bool false] 37)
            generalize w_r9.alloc (.cells #[.int .i64 0, .bool false, .bool false] 37) = wY at *
            generalize w_r9.heap.size = by_ at *
            refine rdn 13 fun K hK => ?_
            clear hHeld
            obtain ⟨z0, z1, z2, zf, zl⟩ := BY.t3
            go_simp
            (try go_wp2_with fail)
            refine hko hK ⟨trivial, ((((BX.other (by omega)).other (by omega)).other (by omega)).cell _).trans hget⟩ fun hHeld => ?_
            clear hK K
            clear z0 z1 z2 zf zl
            replace BZ := ((BZ.other (g := by_) (o := 0) (v := .int .i64 M) (by omega)).other (g := by_) (o := 1) (v := .bool (r6 == 0)) (by omega)).other (g := by_) (o := 2) (v := .bool (r9 == 0)) (by omega)
            replace hS := ((hS.set (g' := by_) (o := 0) (v := .int .i64 M) (by omega) (by omega)).set (g' := by_) (o := 1) (v := .bool (r6 == 0)) (by omega) (by omega)).set (g' := by_) (o := 2) (v := .bool (r9 == 0)) (by omega) (by omega)
            replace hG := grown_new (g' := by_) (o := 2) (v := .bool (r9 == 0)) (grown_new (g' := by_) (o := 1) (v := .bool (r6 == 0)) (grown_new (g' := by_) (o := 0) (v := .int .i64 M) hG (by omega)) (by omega)) (by omega)
            have BYn : Blk (((wY.setCell ⟨by_, 0, none⟩ (.int .i64 M)).setCell ⟨by_, 1, none⟩ (.bool (r6 == 0))).setCell ⟨by_, 2, none⟩ (.bool (r9 == 0))) by_ #[.int .i64 M, .bool (r6 == 0), .bool (r9 == 0)] 37 := by simpa using ((BY.set (i := 0) (.int .i64 M)).set (i := 1) (.bool (r6 == 0))).set (i := 2) (.bool (r9 == 0))
            refine wpAnyH_done (by kernel_rfl) ?_ _
            clear hHeld
            (try go_wp2_with fail)
            go_meet
            case rel => exact ⟨by_, M, _, _, rfl, BYn, BZ, hS, hG, by omega⟩
          · go_simp
            (try go_wp2_with fail)
            refine hko hK ⟨trivial, ((BX.alloc (.cells #[.int .i64 0, .bool false, .bool false] 37)).cell _).trans hget⟩ fun hHeld => ?_
            clear hK K
            have BY := Blk.new w_r6 #[.int .i64 0, .bool false, .bool false] 37
            have hz_by_ : w.heap.size < w_r6.heap.size := BZ.lt
            have hg_by_ : g < w_r6.heap.size := hS.lt
            have hx_by_ : bx < w_r6.heap.size := BX.lt
            replace BZ := BZ.alloc (.cells #[.int .i64 0, .bool false, .bool false] 37)
            replace BX := BX.alloc (.cells #[.int .i64 0, .bool false, .bool false] 37)
            replace hS := hS.alloc (.cells #[.int .i64 0, .bool false, .bool false] 37)
            replace hG := grown_alloc hG (.cells #[.int .i64 0, .bool false, .bool false] 37)
            generalize w_r6.alloc (.cells #[.int .i64 0, .bool false, .bool false] 37) = wY at *
            generalize w_r6.heap.size = by_ at *
            refine rdk 9 13 fun K hK => ?_
            go_simp
            refine (next_any B g a len cap 2 _ hS (by omega)).mono ?_
            rintro e w_r9 ⟨r9, rfl, q_r9, u_r9, hS, hg⟩
            replace BZ := BZ.grown hg (by omega)
            replace BX := BX.grown hg (by omega)
            replace BY := BY.grown hg (by omega)
            replace hG := grown_trans hG hg
            clear hg
            have wz9 : IntKind.i64.wrap (r9 - 1) = r9 - 1 := IntWalk.i64_in _ (by omega)
            (try go_wp2_with fail)
            refine hko hK ⟨trivial, (BX.cell _).trans hget⟩ fun hHeld => ?_
            clear hK K
            refine tk 10 14 ?_
            refine tk 11 15 ?_
            refine rdn 13 fun K hK => ?_
            clear hHeld
            obtain ⟨z0, z1, z2, zf, zl⟩ := BY.t3
            go_simp
            (try go_wp2_with fail)
            refine hko hK ⟨trivial, ((((BX.other (by omega)).other (by omega)).other (by omega)).cell _).trans hget⟩ fun hHeld => ?_
            clear hK K
            clear z0 z1 z2 zf zl
            replace BZ := ((BZ.other (g := by_) (o := 0) (v := .int .i64 M) (by omega)).other (g := by_) (o := 1) (v := .bool (r6 == 0)) (by omega)).other (g := by_) (o := 2) (v := .bool (r9 == 0)) (by omega)
            replace hS := ((hS.set (g' := by_) (o := 0) (v := .int .i64 M) (by omega) (by omega)).set (g' := by_) (o := 1) (v := .bool (r6 == 0)) (by omega) (by omega)).set (g' := by_) (o := 2) (v := .bool (r9 == 0)) (by omega) (by omega)
            replace hG := grown_new (g' := by_) (o := 2) (v := .bool (r9 == 0)) (grown_new (g' := by_) (o := 1) (v := .bool (r6 == 0)) (grown_new (g' := by_) (o := 0) (v := .int .i64 M) hG (by omega)) (by omega)) (by omega)
            have BYn : Blk (((w_r9.setCell ⟨by_, 0, none⟩ (.int .i64 M)).setCell ⟨by_, 1, none⟩ (.bool (r6 == 0))).setCell ⟨by_, 2, none⟩ (.bool (r9 == 0))) by_ #[.int .i64 M, .bool (r6 == 0), .bool (r9 == 0)] 37 := by simpa using ((BY.set (i := 0) (.int .i64 M)).set (i := 1) (.bool (r6 == 0))).set (i := 2) (.bool (r9 == 0))
            refine wpAnyH_done (by kernel_rfl) ?_ _
            clear hHeld
            (try go_wp2_with fail)
            go_meet
            case rel => exact ⟨by_, M, _, _, rfl, BYn, BZ, hS, hG, by omega⟩
        · go_simp
          (try go_wp2_with fail)
          refine hko hK ⟨trivial, ((BX.alloc (.cells #[.int .i64 0, .bool false, .bool false] 37)).cell _).trans hget⟩ fun hHeld => ?_
          clear hK K
          have BY := Blk.new w_r2 #[.int .i64 0, .bool false, .bool false] 37
          have hz_by_ : w.heap.size < w_r2.heap.size := BZ.lt
          have hg_by_ : g < w_r2.heap.size := hS.lt
          have hx_by_ : bx < w_r2.heap.size := BX.lt
          replace BZ := BZ.alloc (.cells #[.int .i64 0, .bool false, .bool false] 37)
          replace BX := BX.alloc (.cells #[.int .i64 0, .bool false, .bool false] 37)
          replace hS := hS.alloc (.cells #[.int .i64 0, .bool false, .bool false] 37)
          replace hG := grown_alloc hG (.cells #[.int .i64 0, .bool false, .bool false] 37)
          generalize w_r2.alloc (.cells #[.int .i64 0, .bool false, .bool false] 37) = wY at *
          generalize w_r2.heap.size = by_ at *
          refine rdk 6 10 fun K hK => ?_
          go_simp
          refine (next_any B g a len cap 2 _ hS (by omega)).mono ?_
          rintro e w_r6 ⟨r6, rfl, q_r6, u_r6, hS, hg⟩
          replace BZ := BZ.grown hg (by omega)
          replace BX := BX.grown hg (by omega)
          replace BY := BY.grown hg (by omega)
          replace hG := grown_trans hG hg
          clear hg
          have wz6 : IntKind.i64.wrap (r6 - 1) = r6 - 1 := IntWalk.i64_in _ (by omega)
          (try go_wp2_with fail)
          refine hko hK ⟨trivial, (BX.cell _).trans hget⟩ fun hHeld => ?_
          clear hK K
          refine tk 7 11 ?_
          refine rdk 9 13 fun K hK => ?_
          go_simp
          refine (next_any B g a len cap 2 _ hS (by omega)).mono ?_
          rintro e w_r9 ⟨r9, rfl, q_r9, u_r9, hS, hg⟩
          replace BZ := BZ.grown hg (by omega)
          replace BX := BX.grown hg (by omega)
          replace BY := BY.grown hg (by omega)
          replace hG := grown_trans hG hg
          clear hg
          have wz9 : IntKind.i64.wrap (r9 - 1) = r9 - 1 := IntWalk.i64_in _ (by omega)
          (try go_wp2_with fail)
          refine hko hK ⟨trivial, (BX.cell _).trans hget⟩ fun hHeld => ?_
          clear hK K
          refine tk 10 14 ?_
          refine tk 11 15 ?_
          refine rdn 13 fun K hK => ?_
          clear hHeld
          obtain ⟨z0, z1, z2, zf, zl⟩ := BY.t3
          go_simp
          (try go_wp2_with fail)
          refine hko hK ⟨trivial, ((((BX.other (by omega)).other (by omega)).other (by omega)).cell _).trans hget⟩ fun hHeld => ?_
          clear hK K
          clear z0 z1 z2 zf zl
          replace BZ := ((BZ.other (g := by_) (o := 0) (v := .int .i64 M) (by omega)).other (g := by_) (o := 1) (v := .bool (r6 == 0)) (by omega)).other (g := by_) (o := 2) (v := .bool (r9 == 0)) (by omega)
          replace hS := ((hS.set (g' := by_) (o := 0) (v := .int .i64 M) (by omega) (by omega)).set (g' := by_) (o := 1) (v := .bool (r6 == 0)) (by omega) (by omega)).set (g' := by_) (o := 2) (v := .bool (r9 == 0)) (by omega) (by omega)
          replace hG := grown_new (g' := by_) (o := 2) (v := .bool (r9 == 0)) (grown_new (g' := by_) (o := 1) (v := .bool (r6 == 0)) (grown_new (g' := by_) (o := 0) (v := .int .i64 M) hG (by omega)) (by omega)) (by omega)
          have BYn : Blk (((w_r9.setCell ⟨by_, 0, none⟩ (.int .i64 M)).setCell ⟨by_, 1, none⟩ (.bool (r6 == 0))).setCell ⟨by_, 2, none⟩ (.bool (r9 == 0))) by_ #[.int .i64 M, .bool (r6 == 0), .bool (r9 == 0)] 37 := by simpa using ((BY.set (i := 0) (.int .i64 M)).set (i := 1) (.bool (r6 == 0))).set (i := 2) (.bool (r9 == 0))
          refine wpAnyH_done (by kernel_rfl) ?_ _
          clear hHeld
          (try go_wp2_with fail)
          go_meet
          case rel => exact ⟨by_, M, _, _, rfl, BYn, BZ, hS, hG, by omega⟩
      · go_simp
        (try go_wp2_with fail)
        refine hko hK trivial fun hHeld => ?_
        clear hK K
        have BY := Blk.new wX #[.int .i64 0, .bool false, .bool false] 37
        have hz_by_ : w.heap.size < wX.heap.size := BZ.lt
        have hg_by_ : g < wX.heap.size := hS.lt
        have hx_by_ : bx < wX.heap.size := BX.lt
        replace BZ := BZ.alloc (.cells #[.int .i64 0, .bool false, .bool false] 37)
        replace BX := BX.alloc (.cells #[.int .i64 0, .bool false, .bool false] 37)
        replace hS := hS.alloc (.cells #[.int .i64 0, .bool false, .bool false] 37)
        replace hG := grown_alloc hG (.cells #[.int .i64 0, .bool false, .bool false] 37)
        generalize wX.alloc (.cells #[.int .i64 0, .bool false, .bool false] 37) = wY at *
        generalize wX.heap.size = by_ at *
        refine rdk 2 6 fun K hK => ?_
        go_simp
        refine (next_any B g a len cap 7 _ hS (by omega)).mono ?_
        rintro e w_r2 ⟨r2, rfl, q_r2, u_r2, hS, hg⟩
        replace BZ := BZ.grown hg (by omega)
        replace BX := BX.grown hg (by omega)
        replace BY := BY.grown hg (by omega)
        replace hG := grown_trans hG hg
        clear hg
        obtain ⟨k, rfl⟩ := Int.eq_ofNat_of_zero_le q_r2
        have hk : k < 7 := by omega
        have hk1 : (k : Int) < 7 := by omega
        have hk0 : (0 : Int) ≤ (k : Int) := by omega
        obtain ⟨M, hget⟩ := get7 k hk
        (try go_wp2_with fail)
        refine hko hK trivial fun hHeld => ?_
        clear hK K
        refine tk 3 7 ?_
        refine wpAnyH_more (S' := fun w' => True ∧ w'.cell? ⟨bx, k, none⟩ = some (.int .i64 M)) (fun _ h => h.1) ?_
        have hHeld0 := hHeld
        clear hHeld
        have hHeld := (⟨trivial, (BX.cell _).trans hget⟩ : True ∧ _)
        clear hHeld0
        refine tk 4 8 ?_
        refine rdk 6 10 fun K hK => ?_
        go_simp
        refine (next_any B g a len cap 2 _ hS (by omega)).mono ?_
        rintro e w_r6 ⟨r6, rfl, q_r6, u_r6, hS, hg⟩
        replace BZ := BZ.grown hg (by omega)
        replace BX := BX.grown hg (by omega)
        replace BY := BY.grown hg (by omega)
        replace hG := grown_trans hG hg
        clear hg
        have wz6 : IntKind.i64.wrap (r6 - 1) = r6 - 1 := IntWalk.i64_in _ (by omega)
        (try go_wp2_with fail)
        refine hko hK ⟨trivial, (BX.cell _).trans hget⟩ fun hHeld => ?_
        clear hK K
        refine tk 7 11 ?_
        refine rdk 9 13 fun K hK => ?_
        go_simp
        refine (next_any B g a len cap 2 _ hS (by omega)).mono ?_
        rintro e w_r9 ⟨r9, rfl, q_r9, u_r9, hS, hg⟩
        replace BZ := BZ.grown hg (by omega)
        replace BX := BX.grown hg (by omega)
        replace BY := BY.grown hg (by omega)
        replace hG := grown_trans hG hg
        clear hg
        have wz9 : IntKind.i64.wrap (r9 - 1) = r9 - 1 := IntWalk.i64_in _ (by omega)
        (try go_wp2_with fail)
        refine hko hK ⟨trivial, (BX.cell _).trans hget⟩ fun hHeld => ?_
        clear hK K
        refine tk 10 14 ?_
        refine tk 11 15 ?_
        refine rdn 13 fun K hK => ?_
        clear hHeld
        obtain ⟨z0, z1, z2, zf, zl⟩ := BY.t3
        go_simp
        (try go_wp2_with fail)
        refine hko hK ⟨trivial, ((((BX.other (by omega)).other (by omega)).other (by omega)).cell _).trans hget⟩ fun hHeld => ?_
        clear hK K
        clear z0 z1 z2 zf zl
        replace BZ := ((BZ.other (g := by_) (o := 0) (v := .int .i64 M) (by omega)).other (g := by_) (o := 1) (v := .bool (r6 == 0)) (by omega)).other (g := by_) (o := 2) (v := .bool (r9 == 0)) (by omega)
        replace hS := ((hS.set (g' := by_) (o := 0) (v := .int .i64 M) (by omega) (by omega)).set (g' := by_) (o := 1) (v := .bool (r6 == 0)) (by omega) (by omega)).set (g' := by_) (o := 2) (v := .bool (r9 == 0)) (by omega) (by omega)
        replace hG := grown_new (g' := by_) (o := 2) (v := .bool (r9 == 0)) (grown_new (g' := by_) (o := 1) (v := .bool (r6 == 0)) (grown_new (g' := by_) (o := 0) (v := .int .i64 M) hG (by omega)) (by omega)) (by omega)
        have BYn : Blk (((w_r9.setCell ⟨by_, 0, none⟩ (.int .i64 M)).setCell ⟨by_, 1, none⟩ (.bool (r6 == 0))).setCell ⟨by_, 2, none⟩ (.bool (r9 == 0))) by_ #[.int .i64 M, .bool (r6 == 0), .bool (r9 == 0)] 37 := by simpa using ((BY.set (i := 0) (.int .i64 M)).set (i := 1) (.bool (r6 == 0))).set (i := 2) (.bool (r9 == 0))
        refine wpAnyH_done (by kernel_rfl) ?_ _
        clear hHeld
        (try go_wp2_with fail)
        go_meet
        case rel => exact ⟨by_, M, _, _, rfl, BYn, BZ, hS, hG, by omega⟩
    · go_simp
      refine (next_any B g a len cap 7 _ hS (by omega)).mono ?_
      rintro e w_r2 ⟨r2, rfl, q_r2, u_r2, hS, hg⟩
      replace BZ := BZ.grown hg (by omega)
      replace hG := grown_trans hG hg
      clear hg
      obtain ⟨k, rfl⟩ := Int.eq_ofNat_of_zero_le q_r2
      have hk : k < 7 := by omega
      have hk1 : (k : Int) < 7 := by omega
      have hk0 : (0 : Int) ≤ (k : Int) := by omega
      obtain ⟨M, hget⟩ := get7 k hk
      (try go_wp2_with fail)
      refine hko hK trivial fun hHeld => ?_
      clear hK K
      refine wpAnyH_ready (rs := [0, 6, 12]) (by kernel_rfl) (by simp) ?_
      refine AllReadyH.cons (o := { dst := some 4, op := _, type := _, pos := _, after := _, guard := _ }) rfl (fun K hK => ?_) (AllReadyH.cons (o := { dst := some 10, op := _, type := _, pos := _, after := _, guard := _ }) rfl (fun K hK => ?_) (AllReadyH.cons (o := { dst := some 3, op := _, type := _, pos := _, after := _, guard := _ }) rfl (fun K hK => ?_) AllReadyH.nil))
      · go_simp
        (try go_wp2_with fail)
        refine hko hK trivial fun hHeld => ?_
        clear hK K
        have BX := Blk.new w_r2 #[.int .i64 1, .int .i64 2, .int .i64 4, .int .i64 8, .int .i64 16, .int .i64 64, .int .i64 1024] 2
        have hz_bx : w.heap.size < w_r2.heap.size := BZ.lt
        have hg_bx : g < w_r2.heap.size := hS.lt
        replace BZ := BZ.alloc (.cells #[.int .i64 1, .int .i64 2, .int .i64 4, .int .i64 8, .int .i64 16, .int .i64 64, .int .i64 1024] 2)
        replace hS := hS.alloc (.cells #[.int .i64 1, .int .i64 2, .int .i64 4, .int .i64 8, .int .i64 16, .int .i64 64, .int .i64 1024] 2)
        replace hG := grown_alloc hG (.cells #[.int .i64 1, .int .i64 2, .int .i64 4, .int .i64 8, .int .i64 16, .int .i64 64, .int .i64 1024] 2)
        generalize w_r2.alloc (.cells #[.int .i64 1, .int .i64 2, .int .i64 4, .int .i64 8, .int .i64 16, .int .i64 64, .int .i64 1024] 2) = wX at *
        generalize w_r2.heap.size = bx at *
        refine tk 3 7 ?_
        refine wpAnyH_more (S' := fun w' => True ∧ w'.cell? ⟨bx, k, none⟩ = some (.int .i64 M)) (fun _ h => h.1) ?_
        have hHeld0 := hHeld
        clear hHeld
        have hHeld := (⟨trivial, (BX.cell _).trans hget⟩ : True ∧ _)
        clear hHeld0
        refine tk 4 8 ?_
        refine wpAnyH_ready (rs := [6, 12]) (by kernel_rfl) (by simp) ?_
        refine AllReadyH.cons (o := { dst := some 10, op := _, type := _, pos := _, after := _, guard := _ }) rfl (fun K hK => ?_) (AllReadyH.cons (o := { dst := some 3, op := _, type := _, pos := _, after := _, guard := _ }) rfl (fun K hK => ?_) AllReadyH.nil)
        · go_simp
          refine (next_any B g a len cap 2 _ hS (by omega)).mono ?_
          rintro e w_r6 ⟨r6, rfl, q_r6, u_r6, hS, hg⟩
          replace BZ := BZ.grown hg (by omega)
          replace BX := BX.grown hg (by omega)
          replace hG := grown_trans hG hg
          clear hg
          have wz6 : IntKind.i64.wrap (r6 - 1) = r6 - 1 := IntWalk.i64_in _ (by omega)
          (try go_wp2_with fail)
          refine hko hK ⟨trivial, (BX.cell _).trans hget⟩ fun hHeld => ?_
          clear hK K
          refine tk 7 11 ?_
          refine wpAnyH_ready (rs := [9, 12]) (by kernel_rfl) (by simp) ?_
          refine AllReadyH.cons (o := { dst := some 13, op := _, type := _, pos := _, after := _, guard := _ }) rfl (fun K hK => ?_) (AllReadyH.cons (o := { dst := some 3, op := _, type := _, pos := _, after := _, guard := _ }) rfl (fun K hK => ?_) AllReadyH.nil)
          · go_simp
            refine (next_any B g a len cap 2 _ hS (by omega)).mono ?_
            rintro e w_r9 ⟨r9, rfl, q_r9, u_r9, hS, hg⟩
            replace BZ := BZ.grown hg (by omega)
            replace BX := BX.grown hg (by omega)
            replace hG := grown_trans hG hg
            clear hg
            have wz9 : IntKind.i64.wrap (r9 - 1) = r9 - 1 := IntWalk.i64_in _ (by omega)
            (try go_wp2_with fail)
            refine hko hK ⟨trivial, (BX.cell _).trans hget⟩ fun hHeld => ?_
            clear hK K
            refine tk 10 14 ?_
            refine tk 11 15 ?_
            refine rdk 12 3 fun K hK => ?_
            go_simp
            (try go_wp2_with fail)
            refine hko hK ⟨trivial, ((BX.alloc (.cells #[.int .i64 0, .bool false, .bool false] 37)).cell _).trans hget⟩ fun hHeld => ?_
            clear hK K
            have BY := Blk.new w_r9 #[.int .i64 0, .bool false, .bool false] 37
            have hz_by_ : w.heap.size < w_r9.heap.size := BZ.lt
            have hg_by_ : g < w_r9.heap.size := hS.lt
            have hx_by_ : bx < w_r9.heap.size := BX.lt
            replace BZ := BZ.alloc (.cells #[.int .i64 0, .bool false, .bool false] 37)
            replace BX := BX.alloc (.cells #[.int .i64 0, .bool false, .bool false] 37)
            replace hS := hS.alloc (.cells #[.int .i64 0, .bool false, .bool false] 37)
            replace hG := grown_alloc hG (.cells #[.int .i64 0, .bool false, .bool false] 37)
            generalize w_r9.alloc (.cells #[.int .i64 0, .bool false, .bool false] 37) = wY at *
            generalize w_r9.heap.size = by_ at *
            refine rdn 13 fun K hK => ?_
            clear hHeld
            obtain ⟨z0, z1, z2, zf, zl⟩ := BY.t3
            go_simp
            (try go_wp2_with fail)
            refine hko hK ⟨trivial, ((((BX.other (by omega)).other (by omega)).other (by omega)).cell _).trans hget⟩ fun hHeld => ?_
            clear hK K
            clear z0 z1 z2 zf zl
            replace BZ := ((BZ.other (g := by_) (o := 0) (v := .int .i64 M) (by omega)).other (g := by_) (o := 1) (v := .bool (r6 == 0)) (by omega)).other (g := by_) (o := 2) (v := .bool (r9 == 0)) (by omega)
            replace hS := ((hS.set (g' := by_) (o := 0) (v := .int .i64 M) (by omega) (by omega)).set (g' := by_) (o := 1) (v := .bool (r6 == 0)) (by omega) (by omega)).set (g' := by_) (o := 2) (v := .bool (r9 == 0)) (by omega) (by omega)
            replace hG := grown_new (g' := by_) (o := 2) (v := .bool (r9 == 0)) (grown_new (g' := by_) (o := 1) (v := .bool (r6 == 0)) (grown_new (g' := by_) (o := 0) (v := .int .i64 M) hG (by omega)) (by omega)) (by omega)
            have BYn : Blk (((wY.setCell ⟨by_, 0, none⟩ (.int .i64 M)).setCell ⟨by_, 1, none⟩ (.bool (r6 == 0))).setCell ⟨by_, 2, none⟩ (.bool (r9 == 0))) by_ #[.int .i64 M, .bool (r6 == 0), .bool (r9 == 0)] 37 := by simpa using ((BY.set (i := 0) (.int .i64 M)).set (i := 1) (.bool (r6 == 0))).set (i := 2) (.bool (r9 == 0))
            refine wpAnyH_done (by kernel_rfl) ?_ _
            clear hHeld
            (try go_wp2_with fail)
            go_meet
            case rel => exact ⟨by_, M, _, _, rfl, BYn, BZ, hS, hG, by omega⟩
          · go_simp
            (try go_wp2_with fail)
            refine hko hK ⟨trivial, ((BX.alloc (.cells #[.int .i64 0, .bool false, .bool false] 37)).cell _).trans hget⟩ fun hHeld => ?_
            clear hK K
            have BY := Blk.new w_r6 #[.int .i64 0, .bool false, .bool false] 37
            have hz_by_ : w.heap.size < w_r6.heap.size := BZ.lt
            have hg_by_ : g < w_r6.heap.size := hS.lt
            have hx_by_ : bx < w_r6.heap.size := BX.lt
            replace BZ := BZ.alloc (.cells #[.int .i64 0, .bool false, .bool false] 37)
            replace BX := BX.alloc (.cells #[.int .i64 0, .bool false, .bool false] 37)
            replace hS := hS.alloc (.cells #[.int .i64 0, .bool false, .bool false] 37)
            replace hG := grown_alloc hG (.cells #[.int .i64 0, .bool false, .bool false] 37)
            generalize w_r6.alloc (.cells #[.int .i64 0, .bool false, .bool false] 37) = wY at *
            generalize w_r6.heap.size = by_ at *
            refine rdk 9 13 fun K hK => ?_
            go_simp
            refine (next_any B g a len cap 2 _ hS (by omega)).mono ?_
            rintro e w_r9 ⟨r9, rfl, q_r9, u_r9, hS, hg⟩
            replace BZ := BZ.grown hg (by omega)
            replace BX := BX.grown hg (by omega)
            replace BY := BY.grown hg (by omega)
            replace hG := grown_trans hG hg
            clear hg
            have wz9 : IntKind.i64.wrap (r9 - 1) = r9 - 1 := IntWalk.i64_in _ (by omega)
            (try go_wp2_with fail)
            refine hko hK ⟨trivial, (BX.cell _).trans hget⟩ fun hHeld => ?_
            clear hK K
            refine tk 10 14 ?_
            refine tk 11 15 ?_
            refine rdn 13 fun K hK => ?_
            clear hHeld
            obtain ⟨z0, z1, z2, zf, zl⟩ := BY.t3
            go_simp
            (try go_wp2_with fail)
            refine hko hK ⟨trivial, ((((BX.other (by omega)).other (by omega)).other (by omega)).cell _).trans hget⟩ fun hHeld => ?_
            clear hK K
            clear z0 z1 z2 zf zl
            replace BZ := ((BZ.other (g := by_) (o := 0) (v := .int .i64 M) (by omega)).other (g := by_) (o := 1) (v := .bool (r6 == 0)) (by omega)).other (g := by_) (o := 2) (v := .bool (r9 == 0)) (by omega)
            replace hS := ((hS.set (g' := by_) (o := 0) (v := .int .i64 M) (by omega) (by omega)).set (g' := by_) (o := 1) (v := .bool (r6 == 0)) (by omega) (by omega)).set (g' := by_) (o := 2) (v := .bool (r9 == 0)) (by omega) (by omega)
            replace hG := grown_new (g' := by_) (o := 2) (v := .bool (r9 == 0)) (grown_new (g' := by_) (o := 1) (v := .bool (r6 == 0)) (grown_new (g' := by_) (o := 0) (v := .int .i64 M) hG (by omega)) (by omega)) (by omega)
            have BYn : Blk (((w_r9.setCell ⟨by_, 0, none⟩ (.int .i64 M)).setCell ⟨by_, 1, none⟩ (.bool (r6 == 0))).setCell ⟨by_, 2, none⟩ (.bool (r9 == 0))) by_ #[.int .i64 M, .bool (r6 == 0), .bool (r9 == 0)] 37 := by simpa using ((BY.set (i := 0) (.int .i64 M)).set (i := 1) (.bool (r6 == 0))).set (i := 2) (.bool (r9 == 0))
            refine wpAnyH_done (by kernel_rfl) ?_ _
            clear hHeld
            (try go_wp2_with fail)
            go_meet
            case rel => exact ⟨by_, M, _, _, rfl, BYn, BZ, hS, hG, by omega⟩
        · go_simp
          (try go_wp2_with fail)
          refine hko hK ⟨trivial, ((BX.alloc (.cells #[.int .i64 0, .bool false, .bool false] 37)).cell _).trans hget⟩ fun hHeld => ?_
          clear hK K
          have BY := Blk.new wX #[.int .i64 0, .bool false, .bool false] 37
          have hz_by_ : w.heap.size < wX.heap.size := BZ.lt
          have hg_by_ : g < wX.heap.size := hS.lt
          have hx_by_ : bx < wX.heap.size := BX.lt
          replace BZ := BZ.alloc (.cells #[.int .i64 0, .bool false, .bool false] 37)
          replace BX := BX.alloc (.cells #[.int .i64 0, .bool false, .bool false] 37)
          replace hS := hS.alloc (.cells #[.int .i64 0, .bool false, .bool false] 37)
          replace hG := grown_alloc hG (.cells #[.int .i64 0, .bool false, .bool false] 37)
          generalize wX.alloc (.cells #[.int .i64 0, .bool false, .bool false] 37) = wY at *
          generalize wX.heap.size = by_ at *
          refine rdk 6 10 fun K hK => ?_
          go_simp
          refine (next_any B g a len cap 2 _ hS (by omega)).mono ?_
          rintro e w_r6 ⟨r6, rfl, q_r6, u_r6, hS, hg⟩
          replace BZ := BZ.grown hg (by omega)
          replace BX := BX.grown hg (by omega)
          replace BY := BY.grown hg (by omega)
          replace hG := grown_trans hG hg
          clear hg
          have wz6 : IntKind.i64.wrap (r6 - 1) = r6 - 1 := IntWalk.i64_in _ (by omega)
          (try go_wp2_with fail)
          refine hko hK ⟨trivial, (BX.cell _).trans hget⟩ fun hHeld => ?_
          clear hK K
          refine tk 7 11 ?_
          refine rdk 9 13 fun K hK => ?_
          go_simp
          refine (next_any B g a len cap 2 _ hS (by omega)).mono ?_
          rintro e w_r9 ⟨r9, rfl, q_r9, u_r9, hS, hg⟩
          replace BZ := BZ.grown hg (by omega)
          replace BX := BX.grown hg (by omega)
          replace BY := BY.grown hg (by omega)
          replace hG := grown_trans hG hg
          clear hg
          have wz9 : IntKind.i64.wrap (r9 - 1) = r9 - 1 := IntWalk.i64_in _ (by omega)
          (try go_wp2_with fail)
          refine hko hK ⟨trivial, (BX.cell _).trans hget⟩ fun hHeld => ?_
          clear hK K
          refine tk 10 14 ?_
          refine tk 11 15 ?_
          refine rdn 13 fun K hK => ?_
          clear hHeld
          obtain ⟨z0, z1, z2, zf, zl⟩ := BY.t3
          go_simp
          (try go_wp2_with fail)
          refine hko hK ⟨trivial, ((((BX.other (by omega)).other (by omega)).other (by omega)).cell _).trans hget⟩ fun hHeld => ?_
          clear hK K
          clear z0 z1 z2 zf zl
          replace BZ := ((BZ.other (g := by_) (o := 0) (v := .int .i64 M) (by omega)).other (g := by_) (o := 1) (v := .bool (r6 == 0)) (by omega)).other (g := by_) (o := 2) (v := .bool (r9 == 0)) (by omega)
          replace hS := ((hS.set (g' := by_) (o := 0) (v := .int .i64 M) (by omega) (by omega)).set (g' := by_) (o := 1) (v := .bool (r6 == 0)) (by omega) (by omega)).set (g' := by_) (o := 2) (v := .bool (r9 == 0)) (by omega) (by omega)
          replace hG := grown_new (g' := by_) (o := 2) (v := .bool (r9 == 0)) (grown_new (g' := by_) (o := 1) (v := .bool (r6 == 0)) (grown_new (g' := by_) (o := 0) (v := .int .i64 M) hG (by omega)) (by omega)) (by omega)
          have BYn : Blk (((w_r9.setCell ⟨by_, 0, none⟩ (.int .i64 M)).setCell ⟨by_, 1, none⟩ (.bool (r6 == 0))).setCell ⟨by_, 2, none⟩ (.bool (r9 == 0))) by_ #[.int .i64 M, .bool (r6 == 0), .bool (r9 == 0)] 37 := by simpa using ((BY.set (i := 0) (.int .i64 M)).set (i := 1) (.bool (r6 == 0))).set (i := 2) (.bool (r9 == 0))
          refine wpAnyH_done (by kernel_rfl) ?_ _
          clear hHeld
          (try go_wp2_with fail)
          go_meet
          case rel => exact ⟨by_, M, _, _, rfl, BYn, BZ, hS, hG, by omega⟩
      · go_simp
        refine (next_any B g a len cap 2 _ hS (by omega)).mono ?_
        rintro e w_r6 ⟨r6, rfl, q_r6, u_r6, hS, hg⟩
        replace BZ := BZ.grown hg (by omega)
        replace hG := grown_trans hG hg
        clear hg
        have wz6 : IntKind.i64.wrap (r6 - 1) = r6 - 1 := IntWalk.i64_in _ (by omega)
        (try go_wp2_with fail)
        refine hko hK trivial fun hHeld => ?_
        clear hK K
        refine tk 7 11 ?_
        refine wpAnyH_ready (rs := [0, 9, 12]) (by kernel_rfl) (by simp) ?_
        refine AllReadyH.cons (o := { dst := some 4, op := _, type := _, pos := _, after := _, guard := _ }) rfl (fun K hK => ?_) (AllReadyH.cons (o := { dst := some 13, op := _, type := _, pos := _, after := _, guard := _ }) rfl (fun K hK => ?_) (AllReadyH.cons (o := { dst := some 3, op := _, type := _, pos := _, after := _, guard := _ }) rfl (fun K hK => ?_) AllReadyH.nil))
        · go_simp
          (try go_wp2_with fail)
          refine hko hK trivial fun hHeld => ?_
          clear hK K
          have BX := Blk.new w_r6 #[.int .i64 1, .int .i64 2, .int .i64 4, .int .i64 8, .int .i64 16, .int .i64 64, .int .i64 1024] 2
          have hz_bx : w.heap.size < w_r6.heap.size := BZ.lt
          have hg_bx : g < w_r6.heap.size := hS.lt
          replace BZ := BZ.alloc (.cells #[.int .i64 1, .int .i64 2, .int .i64 4, .int .i64 8, .int .i64 16, .int .i64 64, .int .i64 1024] 2)
          replace hS := hS.alloc (.cells #[.int .i64 1, .int .i64 2, .int .i64 4, .int .i64 8, .int .i64 16, .int .i64 64, .int .i64 1024] 2)
          replace hG := grown_alloc hG (.cells #[.int .i64 1, .int .i64 2, .int .i64 4, .int .i64 8, .int .i64 16, .int .i64 64, .int .i64 1024] 2)
          generalize w_r6.alloc (.cells #[.int .i64 1, .int .i64 2, .int .i64 4, .int .i64 8, .int .i64 16, .int .i64 64, .int .i64 1024] 2) = wX at *
          generalize w_r6.heap.size = bx at *
          refine tk 3 7 ?_
          refine wpAnyH_more (S' := fun w' => True ∧ w'.cell? ⟨bx, k, none⟩ = some (.int .i64 M)) (fun _ h => h.1) ?_
          have hHeld0 := hHeld
          clear hHeld
          have hHeld := (⟨trivial, (BX.cell _).trans hget⟩ : True ∧ _)
          clear hHeld0
          refine tk 4 8 ?_
          refine wpAnyH_ready (rs := [9, 12]) (by kernel_rfl) (by simp) ?_
          refine AllReadyH.cons (o := { dst := some 13, op := _, type := _, pos := _, after := _, guard := _ }) rfl (fun K hK => ?_) (AllReadyH.cons (o := { dst := some 3, op := _, type := _, pos := _, after := _, guard := _ }) rfl (fun K hK => ?_) AllReadyH.nil)
          · go_simp
            refine (next_any B g a len cap 2 _ hS (by omega)).mono ?_
            rintro e w_r9 ⟨r9, rfl, q_r9, u_r9, hS, hg⟩
            replace BZ := BZ.grown hg (by omega)
            replace BX := BX.grown hg (by omega)
            replace hG := grown_trans hG hg
            clear hg
            have wz9 : IntKind.i64.wrap (r9 - 1) = r9 - 1 := IntWalk.i64_in _ (by omega)
            (try go_wp2_with fail)
            refine hko hK ⟨trivial, (BX.cell _).trans hget⟩ fun hHeld => ?_
            clear hK K
            refine tk 10 14 ?_
            refine tk 11 15 ?_
            refine rdk 12 3 fun K hK => ?_
            go_simp
            (try go_wp2_with fail)
            refine hko hK ⟨trivial, ((BX.alloc (.cells #[.int .i64 0, .bool false, .bool false] 37)).cell _).trans hget⟩ fun hHeld => ?_
            clear hK K
            have BY := Blk.new w_r9 #[.int .i64 0, .bool false, .bool false] 37
            have hz_by_ : w.heap.size < w_r9.heap.size := BZ.lt
            have hg_by_ : g < w_r9.heap.size := hS.lt
            have hx_by_ : bx < w_r9.heap.size := BX.lt
            replace BZ := BZ.alloc (.cells #[.int .i64 0, .bool false, .bool false] 37)
            replace BX := BX.alloc (.cells #[.int .i64 0, .bool false, .bool false] 37)
            replace hS := hS.alloc (.cells #[.int .i64 0, .bool false, .bool false] 37)
            replace hG := grown_alloc hG (.cells #[.int .i64 0, .bool false, .bool false] 37)
            generalize w_r9.alloc (.cells #[.int .i64 0, .bool false, .bool false] 37) = wY at *
            generalize w_r9.heap.size = by_ at *
            refine rdn 13 fun K hK => ?_
            clear hHeld
            obtain ⟨z0, z1, z2, zf, zl⟩ := BY.t3
            go_simp
            (try go_wp2_with fail)
            refine hko hK ⟨trivial, ((((BX.other (by omega)).other (by omega)).other (by omega)).cell _).trans hget⟩ fun hHeld => ?_
            clear hK K
            clear z0 z1 z2 zf zl
            replace BZ := ((BZ.other (g := by_) (o := 0) (v := .int .i64 M) (by omega)).other (g := by_) (o := 1) (v := .bool (r6 == 0)) (by omega)).other (g := by_) (o := 2) (v := .bool (r9 == 0)) (by omega)
            replace hS := ((hS.set (g' := by_) (o := 0) (v := .int .i64 M) (by omega) (by omega)).set (g' := by_) (o := 1) (v := .bool (r6 == 0)) (by omega) (by omega)).set (g' := by_) (o := 2) (v := .bool (r9 == 0)) (by omega) (by omega)
            replace hG := grown_new (g' := by_) (o := 2) (v := .bool (r9 == 0)) (grown_new (g' := by_) (o := 1) (v := .bool (r6 == 0)) (grown_new (g' := by_) (o := 0) (v := .int .i64 M) hG (by omega)) (by omega)) (by omega)
            have BYn : Blk (((wY.setCell ⟨by_, 0, none⟩ (.int .i64 M)).setCell ⟨by_, 1, none⟩ (.bool (r6 == 0))).setCell ⟨by_, 2, none⟩ (.bool (r9 == 0))) by_ #[.int .i64 M, .bool (r6 == 0), .bool (r9 == 0)] 37 := by simpa using ((BY.set (i := 0) (.int .i64 M)).set (i := 1) (.bool (r6 == 0))).set (i := 2) (.bool (r9 == 0))
            refine wpAnyH_done (by kernel_rfl) ?_ _
            clear hHeld
            (try go_wp2_with fail)
            go_meet
            case rel => exact ⟨by_, M, _, _, rfl, BYn, BZ, hS, hG, by omega⟩
          · go_simp
            (try go_wp2_with fail)
            refine hko hK ⟨trivial, ((BX.alloc (.cells #[.int .i64 0, .bool false, .bool false] 37)).cell _).trans hget⟩ fun hHeld => ?_
            clear hK K
            have BY := Blk.new wX #[.int .i64 0, .bool false, .bool false] 37
            have hz_by_ : w.heap.size < wX.heap.size := BZ.lt
            have hg_by_ : g < wX.heap.size := hS.lt
            have hx_by_ : bx < wX.heap.size := BX.lt
            replace BZ := BZ.alloc (.cells #[.int .i64 0, .bool false, .bool false] 37)
            replace BX := BX.alloc (.cells #[.int .i64 0, .bool false, .bool false] 37)
            replace hS := hS.alloc (.cells #[.int .i64 0, .bool false, .bool false] 37)
            replace hG := grown_alloc hG (.cells #[.int .i64 0, .bool false, .bool false] 37)
            generalize wX.alloc (.cells #[.int .i64 0, .bool false, .bool false] 37) = wY at *
            generalize wX.heap.size = by_ at *
            refine rdk 9 13 fun K hK => ?_
            go_simp
            refine (next_any B g a len cap 2 _ hS (by omega)).mono ?_
            rintro e w_r9 ⟨r9, rfl, q_r9, u_r9, hS, hg⟩
            replace BZ := BZ.grown hg (by omega)
            replace BX := BX.grown hg (by omega)
            replace BY := BY.grown hg (by omega)
            replace hG := grown_trans hG hg
            clear hg
            have wz9 : IntKind.i64.wrap (r9 - 1) = r9 - 1 := IntWalk.i64_in _ (by omega)
            (try go_wp2_with fail)
            refine hko hK ⟨trivial, (BX.cell _).trans hget⟩ fun hHeld => ?_
            clear hK K
            refine tk 10 14 ?_
            refine tk 11 15 ?_
            refine rdn 13 fun K hK => ?_
            clear hHeld
            obtain ⟨z0, z1, z2, zf, zl⟩ := BY.t3
            go_simp
            (try go_wp2_with fail)
            refine hko hK ⟨trivial, ((((BX.other (by omega)).other (by omega)).other (by omega)).cell _).trans hget⟩ fun hHeld => ?_
            clear hK K
            clear z0 z1 z2 zf zl
            replace BZ := ((BZ.other (g := by_) (o := 0) (v := .int .i64 M) (by omega)).other (g := by_) (o := 1) (v := .bool (r6 == 0)) (by omega)).other (g := by_) (o := 2) (v := .bool (r9 == 0)) (by omega)
            replace hS := ((hS.set (g' := by_) (o := 0) (v := .int .i64 M) (by omega) (by omega)).set (g' := by_) (o := 1) (v := .bool (r6 == 0)) (by omega) (by omega)).set (g' := by_) (o := 2) (v := .bool (r9 == 0)) (by omega) (by omega)
            replace hG := grown_new (g' := by_) (o := 2) (v := .bool (r9 == 0)) (grown_new (g' := by_) (o := 1) (v := .bool (r6 == 0)) (grown_new (g' := by_) (o := 0) (v := .int .i64 M) hG (by omega)) (by omega)) (by omega)
            have BYn : Blk (((w_r9.setCell ⟨by_, 0, none⟩ (.int .i64 M)).setCell ⟨by_, 1, none⟩ (.bool (r6 == 0))).setCell ⟨by_, 2, none⟩ (.bool (r9 == 0))) by_ #[.int .i64 M, .bool (r6 == 0), .bool (r9 == 0)] 37 := by simpa using ((BY.set (i := 0) (.int .i64 M)).set (i := 1) (.bool (r6 == 0))).set (i := 2) (.bool (r9 == 0))
            refine wpAnyH_done (by kernel_rfl) ?_ _
            clear hHeld
            (try go_wp2_with fail)
            go_meet
            case rel => exact ⟨by_, M, _, _, rfl, BYn, BZ, hS, hG, by omega⟩
        · go_simp
          refine (next_any B g a len cap 2 _ hS (by omega)).mono ?_
          rintro e w_r9 ⟨r9, rfl, q_r9, u_r9, hS, hg⟩
          replace BZ := BZ.grown hg (by omega)
          replace hG := grown_trans hG hg
          clear hg
          have wz9 : IntKind.i64.wrap (r9 - 1) = r9 - 1 := IntWalk.i64_in _ (by omega)
          (try go_wp2_with fail)
          refine hko hK trivial fun hHeld => ?_
          clear hK K
          refine tk 10 14 ?_
          refine wpAnyH_ready (rs := [0, 12]) (by kernel_rfl) (by simp) ?_
          refine AllReadyH.cons (o := { dst := some 4, op := _, type := _, pos := _, after := _, guard := _ }) rfl (fun K hK => ?_) (AllReadyH.cons (o := { dst := some 3, op := _, type := _, pos := _, after := _, guard := _ }) rfl (fun K hK => ?_) AllReadyH.nil)
          · go_simp
            (try go_wp2_with fail)
            refine hko hK trivial fun hHeld => ?_
            clear hK K
            have BX := Blk.new w_r9 #[.int .i64 1, .int .i64 2, .int .i64 4, .int .i64 8, .int .i64 16, .int .i64 64, .int .i64 1024] 2
            have hz_bx : w.heap.size < w_r9.heap.size := BZ.lt
            have hg_bx : g < w_r9.heap.size := hS.lt
            replace BZ := BZ.alloc (.cells #[.int .i64 1, .int .i64 2, .int .i64 4, .int .i64 8, .int .i64 16, .int .i64 64, .int .i64 1024] 2)
            replace hS := hS.alloc (.cells #[.int .i64 1, .int .i64 2, .int .i64 4, .int .i64 8, .int .i64 16, .int .i64 64, .int .i64 1024] 2)
            replace hG := grown_alloc hG (.cells #[.int .i64 1, .int .i64 2, .int .i64 4, .int .i64 8, .int .i64 16, .int .i64 64, .int .i64 1024] 2)
            generalize w_r9.alloc (.cells #[.int .i64 1, .int .i64 2, .int .i64 4, .int .i64 8, .int .i64 16, .int .i64 64, .int .i64 1024] 2) = wX at *
            generalize w_r9.heap.size = bx at *
            refine tk 3 7 ?_
            refine wpAnyH_more (S' := fun w' => True ∧ w'.cell? ⟨bx, k, none⟩ = some (.int .i64 M)) (fun _ h => h.1) ?_
            have hHeld0 := hHeld
            clear hHeld
            have hHeld := (⟨trivial, (BX.cell _).trans hget⟩ : True ∧ _)
            clear hHeld0
            refine tk 4 8 ?_
            refine tk 11 15 ?_
            refine rdk 12 3 fun K hK => ?_
            go_simp
            (try go_wp2_with fail)
            refine hko hK ⟨trivial, ((BX.alloc (.cells #[.int .i64 0, .bool false, .bool false] 37)).cell _).trans hget⟩ fun hHeld => ?_
            clear hK K
            have BY := Blk.new wX #[.int .i64 0, .bool false, .bool false] 37
            have hz_by_ : w.heap.size < wX.heap.size := BZ.lt
            have hg_by_ : g < wX.heap.size := hS.lt
            have hx_by_ : bx < wX.heap.size := BX.lt
            replace BZ := BZ.alloc (.cells #[.int .i64 0, .bool false, .bool false] 37)
            replace BX := BX.alloc (.cells #[.int .i64 0, .bool false, .bool false] 37)
            replace hS := hS.alloc (.cells #[.int .i64 0, .bool false, .bool false] 37)
            replace hG := grown_alloc hG (.cells #[.int .i64 0, .bool false, .bool false] 37)
            generalize wX.alloc (.cells #[.int .i64 0, .bool false, .bool false] 37) = wY at *
            generalize wX.heap.size = by_ at *
            refine rdn 13 fun K hK => ?_
            clear hHeld
            obtain ⟨z0, z1, z2, zf, zl⟩ := BY.t3
            go_simp
            (try go_wp2_with fail)
            refine hko hK ⟨trivial, ((((BX.other (by omega)).other (by omega)).other (by omega)).cell _).trans hget⟩ fun hHeld => ?_
            clear hK K
            clear z0 z1 z2 zf zl
            replace BZ := ((BZ.other (g := by_) (o := 0) (v := .int .i64 M) (by omega)).other (g := by_) (o := 1) (v := .bool (r6 == 0)) (by omega)).other (g := by_) (o := 2) (v := .bool (r9 == 0)) (by omega)
            replace hS := ((hS.set (g' := by_) (o := 0) (v := .int .i64 M) (by omega) (by omega)).set (g' := by_) (o := 1) (v := .bool (r6 == 0)) (by omega) (by omega)).set (g' := by_) (o := 2) (v := .bool (r9 == 0)) (by omega) (by omega)
            replace hG := grown_new (g' := by_) (o := 2) (v := .bool (r9 == 0)) (grown_new (g' := by_) (o := 1) (v := .bool (r6 == 0)) (grown_new (g' := by_) (o := 0) (v := .int .i64 M) hG (by omega)) (by omega)) (by omega)
            have BYn : Blk (((wY.setCell ⟨by_, 0, none⟩ (.int .i64 M)).setCell ⟨by_, 1, none⟩ (.bool (r6 == 0))).setCell ⟨by_, 2, none⟩ (.bool (r9 == 0))) by_ #[.int .i64 M, .bool (r6 == 0), .bool (r9 == 0)] 37 := by simpa using ((BY.set (i := 0) (.int .i64 M)).set (i := 1) (.bool (r6 == 0))).set (i := 2) (.bool (r9 == 0))
            refine wpAnyH_done (by kernel_rfl) ?_ _
            clear hHeld
            (try go_wp2_with fail)
            go_meet
            case rel => exact ⟨by_, M, _, _, rfl, BYn, BZ, hS, hG, by omega⟩
          · go_simp
            (try go_wp2_with fail)
            refine hko hK trivial fun hHeld => ?_
            clear hK K
            have BY := Blk.new w_r9 #[.int .i64 0, .bool false, .bool false] 37
            have hz_by_ : w.heap.size < w_r9.heap.size := BZ.lt
            have hg_by_ : g < w_r9.heap.size := hS.lt
            replace BZ := BZ.alloc (.cells #[.int .i64 0, .bool false, .bool false] 37)
            replace hS := hS.alloc (.cells #[.int .i64 0, .bool false, .bool false] 37)
            replace hG := grown_alloc hG (.cells #[.int .i64 0, .bool false, .bool false] 37)
            generalize w_r9.alloc (.cells #[.int .i64 0, .bool false, .bool false] 37) = wY at *
            generalize w_r9.heap.size = by_ at *
            refine rdk 0 4 fun K hK => ?_
            go_simp
            (try go_wp2_with fail)
            refine hko hK trivial fun hHeld => ?_
            clear hK K
            have BX := Blk.new wY #[.int .i64 1, .int .i64 2, .int .i64 4, .int .i64 8, .int .i64 16, .int .i64 64, .int .i64 1024] 2
            have hz_bx : w.heap.size < wY.heap.size := BZ.lt
            have hg_bx : g < wY.heap.size := hS.lt
            have hy_bx : by_ < wY.heap.size := BY.lt
            replace BZ := BZ.alloc (.cells #[.int .i64 1, .int .i64 2, .int .i64 4, .int .i64 8, .int .i64 16, .int .i64 64, .int .i64 1024] 2)
            replace BY := BY.alloc (.cells #[.int .i64 1, .int .i64 2, .int .i64 4, .int .i64 8, .int .i64 16, .int .i64 64, .int .i64 1024] 2)
            replace hS := hS.alloc (.cells #[.int .i64 1, .int .i64 2, .int .i64 4, .int .i64 8, .int .i64 16, .int .i64 64, .int .i64 1024] 2)
            replace hG := grown_alloc hG (.cells #[.int .i64 1, .int .i64 2, .int .i64 4, .int .i64 8, .int .i64 16, .int .i64 64, .int .i64 1024] 2)
            generalize wY.alloc (.cells #[.int .i64 1, .int .i64 2, .int .i64 4, .int .i64 8, .int .i64 16, .int .i64 64, .int .i64 1024] 2) = wX at *
            generalize wY.heap.size = bx at *
            refine tk 3 7 ?_
            refine wpAnyH_more (S' := fun w' => True ∧ w'.cell? ⟨bx, k, none⟩ = some (.int .i64 M)) (fun _ h => h.1) ?_
            have hHeld0 := hHeld
            clear hHeld
            have hHeld := (⟨trivial, (BX.cell _).trans hget⟩ : True ∧ _)
            clear hHeld0
            refine tk 4 8 ?_
            refine tk 11 15 ?_
            refine rdn 13 fun K hK => ?_
            clear hHeld
            obtain ⟨z0, z1, z2, zf, zl⟩ := BY.t3
            go_simp
            (try go_wp2_with fail)
            refine hko hK ⟨trivial, ((((BX.other (by omega)).other (by omega)).other (by omega)).cell _).trans hget⟩ fun hHeld => ?_
            clear hK K
            clear z0 z1 z2 zf zl
            replace BZ := ((BZ.other (g := by_) (o := 0) (v := .int .i64 M) (by omega)).other (g := by_) (o := 1) (v := .bool (r6 == 0)) (by omega)).other (g := by_) (o := 2) (v := .bool (r9 == 0)) (by omega)
            replace hS := ((hS.set (g' := by_) (o := 0) (v := .int .i64 M) (by omega) (by omega)).set (g' := by_) (o := 1) (v := .bool (r6 == 0)) (by omega) (by omega)).set (g' := by_) (o := 2) (v := .bool (r9 == 0)) (by omega) (by omega)
            replace hG := grown_new (g' := by_) (o := 2) (v := .bool (r9 == 0)) (grown_new (g' := by_) (o := 1) (v := .bool (r6 == 0)) (grown_new (g' := by_) (o := 0) (v := .int .i64 M) hG (by omega)) (by omega)) (by omega)
            have BYn : Blk (((wX.setCell ⟨by_, 0, none⟩ (.int .i64 M)).setCell ⟨by_, 1, none⟩ (.bool (r6 == 0))).setCell ⟨by_, 2, none⟩ (.bool (r9 == 0))) by_ #[.int .i64 M, .bool (r6 == 0), .bool (r9 == 0)] 37 := by simpa using ((BY.set (i := 0) (.int .i64 M)).set (i := 1) (.bool (r6 == 0))).set (i := 2) (.bool (r9 == 0))
            refine wpAnyH_done (by kernel_rfl) ?_ _
            clear hHeld
            (try go_wp2_with fail)
            go_meet
            case rel => exact ⟨by_, M, _, _, rfl, BYn, BZ, hS, hG, by omega⟩
        · go_simp
          (try go_wp2_with fail)
          refine hko hK trivial fun hHeld => ?_
          clear hK K
          have BY := Blk.new w_r6 #[.int .i64 0, .bool false, .bool false] 37
          have hz_by_ : w.heap.size < w_r6.heap.size := BZ.lt
          have hg_by_ : g < w_r6.heap.size := hS.lt
          replace BZ := BZ.alloc (.cells #[.int .i64 0, .bool false, .bool false] 37)
          replace hS := hS.alloc (.cells #[.int .i64 0, .bool false, .bool false] 37)
          replace hG := grown_alloc hG (.cells #[.int .i64 0, .bool false, .bool false] 37)
          generalize w_r6.alloc (.cells #[.int .i64 0, .bool false, .bool false] 37) = wY at *
          generalize w_r6.heap.size = by_ at *
          refine wpAnyH_ready (rs := [0, 9]) (by kernel_rfl) (by simp) ?_
          refine AllReadyH.cons (o := { dst := some 4, op := _, type := _, pos := _, after := _, guard := _ }) rfl (fun K hK => ?_) (AllReadyH.cons (o := { dst := some 13, op := _, type := _, pos := _, after := _, guard := _ }) rfl (fun K hK => ?_) AllReadyH.nil)
          · go_simp
            (try go_wp2_with fail)
            refine hko hK trivial fun hHeld => ?_
            clear hK K
            have BX := Blk.new wY #[.int .i64 1, .int .i64 2, .int .i64 4, .int .i64 8, .int .i64 16, .int .i64 64, .int .i64 1024] 2
            have hz_bx : w.heap.size < wY.heap.size := BZ.lt
            have hg_bx : g < wY.heap.size := hS.lt
            have hy_bx : by_ < wY.heap.size := BY.lt
            replace BZ := BZ.alloc (.cells #[.int .i64 1, .int .i64 2, .int .i64 4, .int .i64 8, .int .i64 16, .int .i64 64, .int .i64 1024] 2)
            replace BY := BY.alloc (.cells #[.int .i64 1, .int .i64 2, .int .i64 4, .int .i64 8, .int .i64 16, .int .i64 64, .int .i64 1024] 2)
            replace hS := hS.alloc (.cells #[.int .i64 1, .int .i64 2, .int .i64 4, .int .i64 8, .int .i64 16, .int .i64 64, .int .i64 1024] 2)
            replace hG := grown_alloc hG (.cells #[.int .i64 1, .int .i64 2, .int .i64 4, .int .i64 8, .int .i64 16, .int .i64 64, .int .i64 1024] 2)
            generalize wY.alloc (.cells #[.int .i64 1, .int .i64 2, .int .i64 4, .int .i64 8, .int .i64 16, .int .i64 64, .int .i64 1024] 2) = wX at *
            generalize wY.heap.size = bx at *
            refine tk 3 7 ?_
            refine wpAnyH_more (S' := fun w' => True ∧ w'.cell? ⟨bx, k, none⟩ = some (.int .i64 M)) (fun _ h => h.1) ?_
            have hHeld0 := hHeld
            clear hHeld
            have hHeld := (⟨trivial, (BX.cell _).trans hget⟩ : True ∧ _)
            clear hHeld0
            refine tk 4 8 ?_
            refine rdk 9 13 fun K hK => ?_
            go_simp
            refine (next_any B g a len cap 2 _ hS (by omega)).mono ?_
            rintro e w_r9 ⟨r9, rfl, q_r9, u_r9, hS, hg⟩
            replace BZ := BZ.grown hg (by omega)
            replace BX := BX.grown hg (by omega)
            replace BY := BY.grown hg (by omega)
            replace hG := grown_trans hG hg
            clear hg
            have wz9 : IntKind.i64.wrap (r9 - 1) = r9 - 1 := IntWalk.i64_in _ (by omega)
            (try go_wp2_with fail)
            refine hko hK ⟨trivial, (BX.cell _).trans hget⟩ fun hHeld => ?_
            clear hK K
            refine tk 10 14 ?_
            refine tk 11 15 ?_
            refine rdn 13 fun K hK => ?_
            clear hHeld
            obtain ⟨z0, z1, z2, zf, zl⟩ := BY.t3
            go_simp
            (try go_wp2_with fail)
            refine hko hK ⟨trivial, ((((BX.other (by omega)).other (by omega)).other (by omega)).cell _).trans hget⟩ fun hHeld => ?_
            clear hK K
            clear z0 z1 z2 zf zl
            replace BZ := ((BZ.other (g := by_) (o := 0) (v := .int .i64 M) (by omega)).other (g := by_) (o := 1) (v := .bool (r6 == 0)) (by omega)).other (g := by_) (o := 2) (v := .bool (r9 == 0)) (by omega)
            replace hS := ((hS.set (g' := by_) (o := 0) (v := .int .i64 M) (by omega) (by omega)).set (g' := by_) (o := 1) (v := .bool (r6 == 0)) (by omega) (by omega)).set (g' := by_) (o := 2) (v := .bool (r9 == 0)) (by omega) (by omega)
            replace hG := grown_new (g' := by_) (o := 2) (v := .bool (r9 == 0)) (grown_new (g' := by_) (o := 1) (v := .bool (r6 == 0)) (grown_new (g' := by_) (o := 0) (v := .int .i64 M) hG (by omega)) (by omega)) (by omega)
            have BYn : Blk (((w_r9.setCell ⟨by_, 0, none⟩ (.int .i64 M)).setCell ⟨by_, 1, none⟩ (.bool (r6 == 0))).setCell ⟨by_, 2, none⟩ (.bool (r9 == 0))) by_ #[.int .i64 M, .bool (r6 == 0), .bool (r9 == 0)] 37 := by simpa using ((BY.set (i := 0) (.int .i64 M)).set (i := 1) (.bool (r6 == 0))).set (i := 2) (.bool (r9 == 0))
            refine wpAnyH_done (by kernel_rfl) ?_ _
            clear hHeld
            (try go_wp2_with fail)
            go_meet
            case rel => exact ⟨by_, M, _, _, rfl, BYn, BZ, hS, hG, by omega⟩
          · go_simp
            refine (next_any B g a len cap 2 _ hS (by omega)).mono ?_
            rintro e w_r9 ⟨r9, rfl, q_r9, u_r9, hS, hg⟩
            replace BZ := BZ.grown hg (by omega)
            replace BY := BY.grown hg (by omega)
            replace hG := grown_trans hG hg
            clear hg
            have wz9 : IntKind.i64.wrap (r9 - 1) = r9 - 1 := IntWalk.i64_in _ (by omega)
            (try go_wp2_with fail)
            refine hko hK trivial fun hHeld => ?_
            clear hK K
            refine tk 10 14 ?_
            refine rdk 0 4 fun K hK => ?_
            go_simp
            (try go_wp2_with fail)
            refine hko hK trivial fun hHeld => ?_
            clear hK K
            have BX := Blk.new w_r9 #[.int .i64 1, .int .i64 2, .int .i64 4, .int .i64 8, .int .i64 16, .int .i64 64, .int .i64 1024] 2
            have hz_bx : w.heap.size < w_r9.heap.size := BZ.lt
            have hg_bx : g < w_r9.heap.size := hS.lt
            have hy_bx : by_ < w_r9.heap.size := BY.lt
            replace BZ := BZ.alloc (.cells #[.int .i64 1, .int .i64 2, .int .i64 4, .int .i64 8, .int .i64 16, .int .i64 64, .int .i64 1024] 2)
            replace BY := BY.alloc (.cells #[.int .i64 1, .int .i64 2, .int .i64 4, .int .i64 8, .int .i64 16, .int .i64 64, .int .i64 1024] 2)
            replace hS := hS.alloc (.cells #[.int .i64 1, .int .i64 2, .int .i64 4, .int .i64 8, .int .i64 16, .int .i64 64, .int .i64 1024] 2)
            replace hG := grown_alloc hG (.cells #[.int .i64 1, .int .i64 2, .int .i64 4, .int .i64 8, .int .i64 16, .int .i64 64, .int .i64 1024] 2)
            generalize w_r9.alloc (.cells #[.int .i64 1, .int .i64 2, .int .i64 4, .int .i64 8, .int .i64 16, .int .i64 64, .int .i64 1024] 2) = wX at *
            generalize w_r9.heap.size = bx at *
            refine tk 3 7 ?_
            refine wpAnyH_more (S' := fun w' => True ∧ w'.cell? ⟨bx, k, none⟩ = some (.int .i64 M)) (fun _ h => h.1) ?_
            have hHeld0 := hHeld
            clear hHeld
            have hHeld := (⟨trivial, (BX.cell _).trans hget⟩ : True ∧ _)
            clear hHeld0
            refine tk 4 8 ?_
            refine tk 11 15 ?_
            refine rdn 13 fun K hK => ?_
            clear hHeld
            obtain ⟨z0, z1, z2, zf, zl⟩ := BY.t3
            go_simp
            (try go_wp2_with fail)
            refine hko hK ⟨trivial, ((((BX.other (by omega)).other (by omega)).other (by omega)).cell _).trans hget⟩ fun hHeld => ?_
            clear hK K
            clear z0 z1 z2 zf zl
            replace BZ := ((BZ.other (g := by_) (o := 0) (v := .int .i64 M) (by omega)).other (g := by_) (o := 1) (v := .bool (r6 == 0)) (by omega)).other (g := by_) (o := 2) (v := .bool (r9 == 0)) (by omega)
            replace hS := ((hS.set (g' := by_) (o := 0) (v := .int .i64 M) (by omega) (by omega)).set (g' := by_) (o := 1) (v := .bool (r6 == 0)) (by omega) (by omega)).set (g' := by_) (o := 2) (v := .bool (r9 == 0)) (by omega) (by omega)
            replace hG := grown_new (g' := by_) (o := 2) (v := .bool (r9 == 0)) (grown_new (g' := by_) (o := 1) (v := .bool (r6 == 0)) (grown_new (g' := by_) (o := 0) (v := .int .i64 M) hG (by omega)) (by omega)) (by omega)
            have BYn : Blk (((wX.setCell ⟨by_, 0, none⟩ (.int .i64 M)).setCell ⟨by_, 1, none⟩ (.bool (r6 == 0))).setCell ⟨by_, 2, none⟩ (.bool (r9 == 0))) by_ #[.int .i64 M, .bool (r6 == 0), .bool (r9 == 0)] 37 := by simpa using ((BY.set (i := 0) (.int .i64 M)).set (i := 1) (.bool (r6 == 0))).set (i := 2) (.bool (r9 == 0))
            refine wpAnyH_done (by kernel_rfl) ?_ _
            clear hHeld
            (try go_wp2_with fail)
            go_meet
            case rel => exact ⟨by_, M, _, _, rfl, BYn, BZ, hS, hG, by omega⟩
      · go_simp
        (try go_wp2_with fail)
        refine hko hK trivial fun hHeld => ?_
        clear hK K
        have BY := Blk.new w_r2 #[.int .i64 0, .bool false, .bool false] 37
        have hz_by_ : w.heap.size < w_r2.heap.size := BZ.lt
        have hg_by_ : g < w_r2.heap.size := hS.lt
        replace BZ := BZ.alloc (.cells #[.int .i64 0, .bool false, .bool false] 37)
        replace hS := hS.alloc (.cells #[.int .i64 0, .bool false, .bool false] 37)
        replace hG := grown_alloc hG (.cells #[.int .i64 0, .bool false, .bool false] 37)
        generalize w_r2.alloc (.cells #[.int .i64 0, .bool false, .bool false] 37) = wY at *
        generalize w_r2.heap.size = by_ at *
        refine wpAnyH_ready (rs := [0, 6]) (by kernel_rfl) (by simp) ?_
        refine AllReadyH.cons (o := { dst := some 4, op := _, type := _, pos := _, after := _, guard := _ }) rfl (fun K hK => ?_) (AllReadyH.cons (o := { dst := some 10, op := _, type := _, pos := _, after := _, guard := _ }) rfl (fun K hK => ?_) AllReadyH.nil)
        · go_simp
          (try go_wp2_with fail)
          refine hko hK trivial fun hHeld => ?_
          clear hK K
          have BX := Blk.new wY #[.int .i64 1, .int .i64 2, .int .i64 4, .int .i64 8, .int .i64 16, .int .i64 64, .int .i64 1024] 2
          have hz_bx : w.heap.size < wY.heap.size := BZ.lt
          have hg_bx : g < wY.heap.size := hS.lt
          have hy_bx : by_ < wY.heap.size := BY.lt
          replace BZ := BZ.alloc (.cells #[.int .i64 1, .int .i64 2, .int .i64 4, .int .i64 8, .int .i64 16, .int .i64 64, .int .i64 1024] 2)
          replace BY := BY.alloc (.cells #[.int .i64 1, .int .i64 2, .int .i64 4, .int .i64 8, .int .i64 16, .int .i64 64, .int .i64 1024] 2)
          replace hS := hS.alloc (.cells #[.int .i64 1, .int .i64 2, .int .i64 4, .int .i64 8, .int .i64 16, .int .i64 64, .int .i64 1024] 2)
          replace hG := grown_alloc hG (.cells #[.int .i64 1, .int .i64 2, .int .i64 4, .int .i64 8, .int .i64 16, .int .i64 64, .int .i64 1024] 2)
          generalize wY.alloc (.cells #[.int .i64 1, .int .i64 2, .int .i64 4, .int .i64 8, .int .i64 16, .int .i64 64, .int .i64 1024] 2) = wX at *
          generalize wY.heap.size = bx at *
          refine tk 3 7 ?_
          refine wpAnyH_more (S' := fun w' => True ∧ w'.cell? ⟨bx, k, none⟩ = some (.int .i64 M)) (fun _ h => h.1) ?_
          have hHeld0 := hHeld
          clear hHeld
          have hHeld := (⟨trivial, (BX.cell _).trans hget⟩ : True ∧ _)
          clear hHeld0
          refine tk 4 8 ?_
          refine rdk 6 10 fun K hK => ?_
          go_simp
          refine (next_any B g a len cap 2 _ hS (by omega)).mono ?_
          rintro e w_r6 ⟨r6, rfl, q_r6, u_r6, hS, hg⟩
          replace BZ := BZ.grown hg (by omega)
          replace BX := BX.grown hg (by omega)
          replace BY := BY.grown hg (by omega)
          replace hG := grown_trans hG hg
          clear hg
          have wz6 : IntKind.i64.wrap (r6 - 1) = r6 - 1 := IntWalk.i64_in _ (by omega)
          (try go_wp2_with fail)
          refine hko hK ⟨trivial, (BX.cell _).trans hget⟩ fun hHeld => ?_
          clear hK K
          refine tk 7 11 ?_
          refine rdk 9 13 fun K hK => ?_
          go_simp
          refine (next_any B g a len cap 2 _ hS (by omega)).mono ?_
          rintro e w_r9 ⟨r9, rfl, q_r9, u_r9, hS, hg⟩
          replace BZ := BZ.grown hg (by omega)
          replace BX := BX.grown hg (by omega)
          replace BY := BY.grown hg (by omega)
          replace hG := grown_trans hG hg
          clear hg
          have wz9 : IntKind.i64.wrap (r9 - 1) = r9 - 1 := IntWalk.i64_in _ (by omega)
          (try go_wp2_with fail)
          refine hko hK ⟨trivial, (BX.cell _).trans hget⟩ fun hHeld => ?_
          clear hK K
          refine tk 10 14 ?_
          refine tk 11 15 ?_
          refine rdn 13 fun K hK => ?_
          clear hHeld
          obtain ⟨z0, z1, z2, zf, zl⟩ := BY.t3
          go_simp
          (try go_wp2_with fail)
          refine hko hK ⟨trivial, ((((BX.other (by omega)).other (by omega)).other (by omega)).cell _).trans hget⟩ fun hHeld => ?_
          clear hK K
          clear z0 z1 z2 zf zl
          replace BZ := ((BZ.other (g := by_) (o := 0) (v := .int .i64 M) (by omega)).other (g := by_) (o := 1) (v := .bool (r6 == 0)) (by omega)).other (g := by_) (o := 2) (v := .bool (r9 == 0)) (by omega)
          replace hS := ((hS.set (g' := by_) (o := 0) (v := .int .i64 M) (by omega) (by omega)).set (g' := by_) (o := 1) (v := .bool (r6 == 0)) (by omega) (by omega)).set (g' := by_) (o := 2) (v := .bool (r9 == 0)) (by omega) (by omega)
          replace hG := grown_new (g' := by_) (o := 2) (v := .bool (r9 == 0)) (grown_new (g' := by_) (o := 1) (v := .bool (r6 == 0)) (grown_new (g' := by_) (o := 0) (v := .int .i64 M) hG (by omega)) (by omega)) (by omega)
          have BYn : Blk (((w_r9.setCell ⟨by_, 0, none⟩ (.int .i64 M)).setCell ⟨by_, 1, none⟩ (.bool (r6 == 0))).setCell ⟨by_, 2, none⟩ (.bool (r9 == 0))) by_ #[.int .i64 M, .bool (r6 == 0), .bool (r9 == 0)] 37 := by simpa using ((BY.set (i := 0) (.int .i64 M)).set (i := 1) (.bool (r6 == 0))).set (i := 2) (.bool (r9 == 0))
          refine wpAnyH_done (by kernel_rfl) ?_ _
          clear hHeld
          (try go_wp2_with fail)
          go_meet
          case rel => exact ⟨by_, M, _, _, rfl, BYn, BZ, hS, hG, by omega⟩
        · go_simp
          refine (next_any B g a len cap 2 _ hS (by omega)).mono ?_
          rintro e w_r6 ⟨r6, rfl, q_r6, u_r6, hS, hg⟩
          replace BZ := BZ.grown hg (by omega)
          replace BY := BY.grown hg (by omega)
          replace hG := grown_trans hG hg
          clear hg
          have wz6 : IntKind.i64.wrap (r6 - 1) = r6 - 1 := IntWalk.i64_in _ (by omega)
          (try go_wp2_with fail)
          refine hko hK trivial fun hHeld => ?_
          clear hK K
          refine tk 7 11 ?_
          refine wpAnyH_ready (rs := [0, 9]) (by kernel_rfl) (by simp) ?_
          refine AllReadyH.cons (o := { dst := some 4, op := _, type := _, pos := _, after := _, guard := _ }) rfl (fun K hK => ?_) (AllReadyH.cons (o := { dst := some 13, op := _, type := _, pos := _, after := _, guard := _ }) rfl (fun K hK => ?_) AllReadyH.nil)
          · go_simp
            (try go_wp2_with fail)
            refine hko hK trivial fun hHeld => ?_
            clear hK K
            have BX := Blk.new w_r6 #[.int .i64 1, .int .i64 2, .int .i64 4, .int .i64 8, .int .i64 16, .int .i64 64, .int .i64 1024] 2
            have hz_bx : w.heap.size < w_r6.heap.size := BZ.lt
            have hg_bx : g < w_r6.heap.size := hS.lt
            have hy_bx : by_ < w_r6.heap.size := BY.lt
            replace BZ := BZ.alloc (.cells #[.int .i64 1, .int .i64 2, .int .i64 4, .int .i64 8, .int .i64 16, .int .i64 64, .int .i64 1024] 2)
            replace BY := BY.alloc (.cells #[.int .i64 1, .int .i64 2, .int .i64 4, .int .i64 8, .int .i64 16, .int .i64 64, .int .i64 1024] 2)
            replace hS := hS.alloc (.cells #[.int .i64 1, .int .i64 2, .int .i64 4, .int .i64 8, .int .i64 16, .int .i64 64, .int .i64 1024] 2)
            replace hG := grown_alloc hG (.cells #[.int .i64 1, .int .i64 2, .int .i64 4, .int .i64 8, .int .i64 16, .int .i64 64, .int .i64 1024] 2)
            generalize w_r6.alloc (.cells #[.int .i64 1, .int .i64 2, .int .i64 4, .int .i64 8, .int .i64 16, .int .i64 64, .int .i64 1024] 2) = wX at *
            generalize w_r6.heap.size = bx at *
            refine tk 3 7 ?_
            refine wpAnyH_more (S' := fun w' => True ∧ w'.cell? ⟨bx, k, none⟩ = some (.int .i64 M)) (fun _ h => h.1) ?_
            have hHeld0 := hHeld
            clear hHeld
            have hHeld := (⟨trivial, (BX.cell _).trans hget⟩ : True ∧ _)
            clear hHeld0
            refine tk 4 8 ?_
            refine rdk 9 13 fun K hK => ?_
            go_simp
            refine (next_any B g a len cap 2 _ hS (by omega)).mono ?_
            rintro e w_r9 ⟨r9, rfl, q_r9, u_r9, hS, hg⟩
            replace BZ := BZ.grown hg (by omega)
            replace BX := BX.grown hg (by omega)
            replace BY := BY.grown hg (by omega)
            replace hG := grown_trans hG hg
            clear hg
            have wz9 : IntKind.i64.wrap (r9 - 1) = r9 - 1 := IntWalk.i64_in _ (by omega)
            (try go_wp2_with fail)
            refine hko hK ⟨trivial, (BX.cell _).trans hget⟩ fun hHeld => ?_
            clear hK K
            refine tk 10 14 ?_
            refine tk 11 15 ?_
            refine rdn 13 fun K hK => ?_
            clear hHeld
            obtain ⟨z0, z1, z2, zf, zl⟩ := BY.t3
            go_simp
            (try go_wp2_with fail)
            refine hko hK ⟨trivial, ((((BX.other (by omega)).other (by omega)).other (by omega)).cell _).trans hget⟩ fun hHeld => ?_
            clear hK K
            clear z0 z1 z2 zf zl
            replace BZ := ((BZ.other (g := by_) (o := 0) (v := .int .i64 M) (by omega)).other (g := by_) (o := 1) (v := .bool (r6 == 0)) (by omega)).other (g := by_) (o := 2) (v := .bool (r9 == 0)) (by omega)
            replace hS := ((hS.set (g' := by_) (o := 0) (v := .int .i64 M) (by omega) (by omega)).set (g' := by_) (o := 1) (v := .bool (r6 == 0)) (by omega) (by omega)).set (g' := by_) (o := 2) (v := .bool (r9 == 0)) (by omega) (by omega)
            replace hG := grown_new (g' := by_) (o := 2) (v := .bool (r9 == 0)) (grown_new (g' := by_) (o := 1) (v := .bool (r6 == 0)) (grown_new (g' := by_) (o := 0) (v := .int .i64 M) hG (by omega)) (by omega)) (by omega)
            have BYn : Blk (((w_r9.setCell ⟨by_, 0, none⟩ (.int .i64 M)).setCell ⟨by_, 1, none⟩ (.bool (r6 == 0))).setCell ⟨by_, 2, none⟩ (.bool (r9 == 0))) by_ #[.int .i64 M, .bool (r6 == 0), .bool (r9 == 0)] 37 := by simpa using ((BY.set (i := 0) (.int .i64 M)).set (i := 1) (.bool (r6 == 0))).set (i := 2) (.bool (r9 == 0))
            refine wpAnyH_done (by kernel_rfl) ?_ _
            clear hHeld
            (try go_wp2_with fail)
            go_meet
            case rel => exact ⟨by_, M, _, _, rfl, BYn, BZ, hS, hG, by omega⟩
          · go_simp
            refine (next_any B g a len cap 2 _ hS (by omega)).mono ?_
            rintro e w_r9 ⟨r9, rfl, q_r9, u_r9, hS, hg⟩
            replace BZ := BZ.grown hg (by omega)
            replace BY := BY.grown hg (by omega)
            replace hG := grown_trans hG hg
            clear hg
            have wz9 : IntKind.i64.wrap (r9 - 1) = r9 - 1 := IntWalk.i64_in _ (by omega)
            (try go_wp2_with fail)
            refine hko hK trivial fun hHeld => ?_
            clear hK K
            refine tk 10 14 ?_
            refine rdk 0 4 fun K hK => ?_
            go_simp
            (try go_wp2_with fail)
            refine hko hK trivial fun hHeld => ?_
            clear hK K
            have BX := Blk.new w_r9 #[.int .i64 1, .int .i64 2, .int .i64 4, .int .i64 8, .int .i64 16, .int .i64 64, .int .i64 1024] 2
            have hz_bx : w.heap.size < w_r9.heap.size := BZ.lt
            have hg_bx : g < w_r9.heap.size := hS.lt
            have hy_bx : by_ < w_r9.heap.size := BY.lt
            replace BZ := BZ.alloc (.cells #[.int .i64 1, .int .i64 2, .int .i64 4, .int .i64 8, .int .i64 16, .int .i64 64, .int .i64 1024] 2)
            replace BY := BY.alloc (.cells #[.int .i64 1, .int .i64 2, .int .i64 4, .int .i64 8, .int .i64 16, .int .i64 64, .int .i64 1024] 2)
            replace hS := hS.alloc (.cells #[.int .i64 1, .int .i64 2, .int .i64 4, .int .i64 8, .int .i64 16, .int .i64 64, .int .i64 1024] 2)
            replace hG := grown_alloc hG (.cells #[.int .i64 1, .int .i64 2, .int .i64 4, .int .i64 8, .int .i64 16, .int .i64 64, .int .i64 1024] 2)
            generalize w_r9.alloc (.cells #[.int .i64 1, .int .i64 2, .int .i64 4, .int .i64 8, .int .i64 16, .int .i64 64, .int .i64 1024] 2) = wX at *
            generalize w_r9.heap.size = bx at *
            refine tk 3 7 ?_
            refine wpAnyH_more (S' := fun w' => True ∧ w'.cell? ⟨bx, k, none⟩ = some (.int .i64 M)) (fun _ h => h.1) ?_
            have hHeld0 := hHeld
            clear hHeld
            have hHeld := (⟨trivial, (BX.cell _).trans hget⟩ : True ∧ _)
            clear hHeld0
            refine tk 4 8 ?_
            refine tk 11 15 ?_
            refine rdn 13 fun K hK => ?_
            clear hHeld
            obtain ⟨z0, z1, z2, zf, zl⟩ := BY.t3
            go_simp
            (try go_wp2_with fail)
            refine hko hK ⟨trivial, ((((BX.other (by omega)).other (by omega)).other (by omega)).cell _).trans hget⟩ fun hHeld => ?_
            clear hK K
            clear z0 z1 z2 zf zl
            replace BZ := ((BZ.other (g := by_) (o := 0) (v := .int .i64 M) (by omega)).other (g := by_) (o := 1) (v := .bool (r6 == 0)) (by omega)).other (g := by_) (o := 2) (v := .bool (r9 == 0)) (by omega)
            replace hS := ((hS.set (g' := by_) (o := 0) (v := .int .i64 M) (by omega) (by omega)).set (g' := by_) (o := 1) (v := .bool (r6 == 0)) (by omega) (by omega)).set (g' := by_) (o := 2) (v := .bool (r9 == 0)) (by omega) (by omega)
            replace hG := grown_new (g' := by_) (o := 2) (v := .bool (r9 == 0)) (grown_new (g' := by_) (o := 1) (v := .bool (r6 == 0)) (grown_new (g' := by_) (o := 0) (v := .int .i64 M) hG (by omega)) (by omega)) (by omega)
            have BYn : Blk (((wX.setCell ⟨by_, 0, none⟩ (.int .i64 M)).setCell ⟨by_, 1, none⟩ (.bool (r6 == 0))).setCell ⟨by_, 2, none⟩ (.bool (r9 == 0))) by_ #[.int .i64 M, .bool (r6 == 0), .bool (r9 == 0)] 37 := by simpa using ((BY.set (i := 0) (.int .i64 M)).set (i := 1) (.bool (r6 == 0))).set (i := 2) (.bool (r9 == 0))
            refine wpAnyH_done (by kernel_rfl) ?_ _
            clear hHeld
            (try go_wp2_with fail)
            go_meet
            case rel => exact ⟨by_, M, _, _, rfl, BYn, BZ, hS, hG, by omega⟩
    · go_simp
      (try go_wp2_with fail)
      refine hko hK trivial fun hHeld => ?_
      clear hK K
      have BY := Blk.new vd #[.int .i64 0, .bool false, .bool false] 37
      have hz_by_ : w.heap.size < vd.heap.size := BZ.lt
      have hg_by_ : g < vd.heap.size := hS.lt
      replace BZ := BZ.alloc (.cells #[.int .i64 0, .bool false, .bool false] 37)
      replace hS := hS.alloc (.cells #[.int .i64 0, .bool false, .bool false] 37)
      replace hG := grown_alloc hG (.cells #[.int .i64 0, .bool false, .bool false] 37)
      generalize vd.alloc (.cells #[.int .i64 0, .bool false, .bool false] 37) = wY at *
      generalize vd.heap.size = by_ at *
      refine wpAnyH_ready (rs := [0, 2]) (by kernel_rfl) (by simp) ?_
      refine AllReadyH.cons (o := { dst := some 4, op := _, type := _, pos := _, after := _, guard := _ }) rfl (fun K hK => ?_) (AllReadyH.cons (o := { dst := some 6, op := _, type := _, pos := _, after := _, guard := _ }) rfl (fun K hK => ?_) AllReadyH.nil)
      · go_simp
        (try go_wp2_with fail)
        refine hko hK trivial fun hHeld => ?_
        clear hK K
        have BX := Blk.new wY #[.int .i64 1, .int .i64 2, .int .i64 4, .int .i64 8, .int .i64 16, .int .i64 64, .int .i64 1024] 2
        have hz_bx : w.heap.size < wY.heap.size := BZ.lt
        have hg_bx : g < wY.heap.size := hS.lt
        have hy_bx : by_ < wY.heap.size := BY.lt
        replace BZ := BZ.alloc (.cells #[.int .i64 1, .int .i64 2, .int .i64 4, .int .i64 8, .int .i64 16, .int .i64 64, .int .i64 1024] 2)
        replace BY := BY.alloc (.cells #[.int .i64 1, .int .i64 2, .int .i64 4, .int .i64 8, .int .i64 16, .int .i64 64, .int .i64 1024] 2)
        replace hS := hS.alloc (.cells #[.int .i64 1, .int .i64 2, .int .i64 4, .int .i64 8, .int .i64 16, .int .i64 64, .int .i64 1024] 2)
        replace hG := grown_alloc hG (.cells #[.int .i64 1, .int .i64 2, .int .i64 4, .int .i64 8, .int .i64 16, .int .i64 64, .int .i64 1024] 2)
        generalize wY.alloc (.cells #[.int .i64 1, .int .i64 2, .int .i64 4, .int .i64 8, .int .i64 16, .int .i64 64, .int .i64 1024] 2) = wX at *
        generalize wY.heap.size = bx at *
        refine rdk 2 6 fun K hK => ?_
        go_simp
        refine (next_any B g a len cap 7 _ hS (by omega)).mono ?_
        rintro e w_r2 ⟨r2, rfl, q_r2, u_r2, hS, hg⟩
        replace BZ := BZ.grown hg (by omega)
        replace BX := BX.grown hg (by omega)
        replace BY := BY.grown hg (by omega)
        replace hG := grown_trans hG hg
        clear hg
        obtain ⟨k, rfl⟩ := Int.eq_ofNat_of_zero_le q_r2
        have hk : k < 7 := by omega
        have hk1 : (k : Int) < 7 := by omega
        have hk0 : (0 : Int) ≤ (k : Int) := by omega
        obtain ⟨M, hget⟩ := get7 k hk
        (try go_wp2_with fail)
        refine hko hK trivial fun hHeld => ?_
        clear hK K
        refine tk 3 7 ?_
        refine wpAnyH_more (S' := fun w' => True ∧ w'.cell? ⟨bx, k, none⟩ = some (.int .i64 M)) (fun _ h => h.1) ?_
        have hHeld0 := hHeld
        clear hHeld
        have hHeld := (⟨trivial, (BX.cell _).trans hget⟩ : True ∧ _)
        clear hHeld0
        refine tk 4 8 ?_
        refine rdk 6 10 fun K hK => ?_
        go_simp
        refine (next_any B g a len cap 2 _ hS (by omega)).mono ?_
        rintro e w_r6 ⟨r6, rfl, q_r6, u_r6, hS, hg⟩
        replace BZ := BZ.grown hg (by omega)
        replace BX := BX.grown hg (by omega)
        replace BY := BY.grown hg (by omega)
        replace hG := grown_trans hG hg
        clear hg
        have wz6 : IntKind.i64.wrap (r6 - 1) = r6 - 1 := IntWalk.i64_in _ (by omega)
        (try go_wp2_with fail)
        refine hko hK ⟨trivial, (BX.cell _).trans hget⟩ fun hHeld => ?_
        clear hK K
        refine tk 7 11 ?_
        refine rdk 9 13 fun K hK => ?_
        go_simp
        refine (next_any B g a len cap 2 _ hS (by omega)).mono ?_
        rintro e w_r9 ⟨r9, rfl, q_r9, u_r9, hS, hg⟩
        replace BZ := BZ.grown hg (by omega)
        replace BX := BX.grown hg (by omega)
        replace BY := BY.grown hg (by omega)
        replace hG := grown_trans hG hg
        clear hg
        have wz9 : IntKind.i64.wrap (r9 - 1) = r9 - 1 := IntWalk.i64_in _ (by omega)
        (try go_wp2_with fail)
        refine hko hK ⟨trivial, (BX.cell _).trans hget⟩ fun hHeld => ?_
        clear hK K
        refine tk 10 14 ?_
        refine tk 11 15 ?_
        refine rdn 13 fun K hK => ?_
        clear hHeld
        obtain ⟨z0, z1, z2, zf, zl⟩ := BY.t3
        go_simp
        (try go_wp2_with fail)
        refine hko hK ⟨trivial, ((((BX.other (by omega)).other (by omega)).other (by omega)).cell _).trans hget⟩ fun hHeld => ?_
        clear hK K
        clear z0 z1 z2 zf zl
        replace BZ := ((BZ.other (g := by_) (o := 0) (v := .int .i64 M) (by omega)).other (g := by_) (o := 1) (v := .bool (r6 == 0)) (by omega)).other (g := by_) (o := 2) (v := .bool (r9 == 0)) (by omega)
        replace hS := ((hS.set (g' := by_) (o := 0) (v := .int .i64 M) (by omega) (by omega)).set (g' := by_) (o := 1) (v := .bool (r6 == 0)) (by omega) (by omega)).set (g' := by_) (o := 2) (v := .bool (r9 == 0)) (by omega) (by omega)
        replace hG := grown_new (g' := by_) (o := 2) (v := .bool (r9 == 0)) (grown_new (g' := by_) (o := 1) (v := .bool (r6 == 0)) (grown_new (g' := by_) (o := 0) (v := .int .i64 M) hG (by omega)) (by omega)) (by omega)
        have BYn : Blk (((w_r9.setCell ⟨by_, 0, none⟩ (.int .i64 M)).setCell ⟨by_, 1, none⟩ (.bool (r6 == 0))).setCell ⟨by_, 2, none⟩ (.bool (r9 == 0))) by_ #[.int .i64 M, .bool (r6 == 0), .bool (r9 == 0)] 37 := by simpa using ((BY.set (i := 0) (.int .i64 M)).set (i := 1) (.bool (r6 == 0))).set (i := 2) (.bool (r9 == 0))
        refine wpAnyH_done (by kernel_rfl) ?_ _
        clear hHeld
        (try go_wp2_with fail)
        go_meet
        case rel => exact ⟨by_, M, _, _, rfl, BYn, BZ, hS, hG, by omega⟩
      · go_simp
        refine (next_any B g a len cap 7 _ hS (by omega)).mono ?_
        rintro e w_r2 ⟨r2, rfl, q_r2, u_r2, hS, hg⟩
        replace BZ := BZ.grown hg (by omega)
        replace BY := BY.grown hg (by omega)
        replace hG := grown_trans hG hg
        clear hg
        obtain ⟨k, rfl⟩ := Int.eq_ofNat_of_zero_le q_r2
        have hk : k < 7 := by omega
        have hk1 : (k : Int) < 7 := by omega
        have hk0 : (0 : Int) ≤ (k : Int) := by omega
        obtain ⟨M, hget⟩ := get7 k hk
        (try go_wp2_with fail)
        refine hko hK trivial fun hHeld => ?_
        clear hK K
        refine wpAnyH_ready (rs := [0, 6]) (by kernel_rfl) (by simp) ?_
        refine AllReadyH.cons (o := { dst := some 4, op := _, type := _, pos := _, after := _, guard := _ }) rfl (fun K hK => ?_) (AllReadyH.cons (o := { dst := some 10, op := _, type := _, pos := _, after := _, guard := _ }) rfl (fun K hK => ?_) AllReadyH.nil)
        · go_simp
          (try go_wp2_with fail)
          refine hko hK trivial fun hHeld => ?_
          clear hK K
          have BX := Blk.new w_r2 #[.int .i64 1, .int .i64 2, .int .i64 4, .int .i64 8, .int .i64 16, .int .i64 64, .int .i64 1024] 2
          have hz_bx : w.heap.size < w_r2.heap.size := BZ.lt
          have hg_bx : g < w_r2.heap.size := hS.lt
          have hy_bx : by_ < w_r2.heap.size := BY.lt
          replace BZ := BZ.alloc (.cells #[.int .i64 1, .int .i64 2, .int .i64 4, .int .i64 8, .int .i64 16, .int .i64 64, .int .i64 1024] 2)
          replace BY := BY.alloc (.cells #[.int .i64 1, .int .i64 2, .int .i64 4, .int .i64 8, .int .i64 16, .int .i64 64, .int .i64 1024] 2)
          replace hS := hS.alloc (.cells #[.int .i64 1, .int .i64 2, .int .i64 4, .int .i64 8, .int .i64 16, .int .i64 64, .int .i64 1024] 2)
          replace hG := grown_alloc hG (.cells #[.int .i64 1, .int .i64 2, .int .i64 4, .int .i64 8, .int .i64 16, .int .i64 64, .int .i64 1024] 2)
          generalize w_r2.alloc (.cells #[.int .i64 1, .int .i64 2, .int .i64 4, .int .i64 8, .int .i64 16, .int .i64 64, .int .i64 1024] 2) = wX at *
          generalize w_r2.heap.size = bx at *
          refine tk 3 7 ?_
          refine wpAnyH_more (S' := fun w' => True ∧ w'.cell? ⟨bx, k, none⟩ = some (.int .i64 M)) (fun _ h => h.1) ?_
          have hHeld0 := hHeld
          clear hHeld
          have hHeld := (⟨trivial, (BX.cell _).trans hget⟩ : True ∧ _)
          clear hHeld0
          refine tk 4 8 ?_
          refine rdk 6 10 fun K hK => ?_
          go_simp
          refine (next_any B g a len cap 2 _ hS (by omega)).mono ?_
          rintro e w_r6 ⟨r6, rfl, q_r6, u_r6, hS, hg⟩
          replace BZ := BZ.grown hg (by omega)
          replace BX := BX.grown hg (by omega)
          replace BY := BY.grown hg (by omega)
          replace hG := grown_trans hG hg
          clear hg
          have wz6 : IntKind.i64.wrap (r6 - 1) = r6 - 1 := IntWalk.i64_in _ (by omega)
          (try go_wp2_with fail)
          refine hko hK ⟨trivial, (BX.cell _).trans hget⟩ fun hHeld => ?_
          clear hK K
          refine tk 7 11 ?_
          refine rdk 9 13 fun K hK => ?_
          go_simp
          refine (next_any B g a len cap 2 _ hS (by omega)).mono ?_
          rintro e w_r9 ⟨r9, rfl, q_r9, u_r9, hS, hg⟩
          replace BZ := BZ.grown hg (by omega)
          replace BX := BX.grown hg (by omega)
          replace BY := BY.grown hg (by omega)
          replace hG := grown_trans hG hg
          clear hg
          have wz9 : IntKind.i64.wrap (r9 - 1) = r9 - 1 := IntWalk.i64_in _ (by omega)
          (try go_wp2_with fail)
          refine hko hK ⟨trivial, (BX.cell _).trans hget⟩ fun hHeld => ?_
          clear hK K
          refine tk 10 14 ?_
          refine tk 11 15 ?_
          refine rdn 13 fun K hK => ?_
          clear hHeld
          obtain ⟨z0, z1, z2, zf, zl⟩ := BY.t3
          go_simp
          (try go_wp2_with fail)
          refine hko hK ⟨trivial, ((((BX.other (by omega)).other (by omega)).other (by omega)).cell _).trans hget⟩ fun hHeld => ?_
          clear hK K
          clear z0 z1 z2 zf zl
          replace BZ := ((BZ.other (g := by_) (o := 0) (v := .int .i64 M) (by omega)).other (g := by_) (o := 1) (v := .bool (r6 == 0)) (by omega)).other (g := by_) (o := 2) (v := .bool (r9 == 0)) (by omega)
          replace hS := ((hS.set (g' := by_) (o := 0) (v := .int .i64 M) (by omega) (by omega)).set (g' := by_) (o := 1) (v := .bool (r6 == 0)) (by omega) (by omega)).set (g' := by_) (o := 2) (v := .bool (r9 == 0)) (by omega) (by omega)
          replace hG := grown_new (g' := by_) (o := 2) (v := .bool (r9 == 0)) (grown_new (g' := by_) (o := 1) (v := .bool (r6 == 0)) (grown_new (g' := by_) (o := 0) (v := .int .i64 M) hG (by omega)) (by omega)) (by omega)
          have BYn : Blk (((w_r9.setCell ⟨by_, 0, none⟩ (.int .i64 M)).setCell ⟨by_, 1, none⟩ (.bool (r6 == 0))).setCell ⟨by_, 2, none⟩ (.bool (r9 == 0))) by_ #[.int .i64 M, .bool (r6 == 0), .bool (r9 == 0)] 37 := by simpa using ((BY.set (i := 0) (.int .i64 M)).set (i := 1) (.bool (r6 == 0))).set (i := 2) (.bool (r9 == 0))
          refine wpAnyH_done (by kernel_rfl) ?_ _
          clear hHeld
          (try go_wp2_with fail)
          go_meet
          case rel => exact ⟨by_, M, _, _, rfl, BYn, BZ, hS, hG, by omega⟩
        · go_simp
          refine (next_any B g a len cap 2 _ hS (by omega)).mono ?_
          rintro e w_r6 ⟨r6, rfl, q_r6, u_r6, hS, hg⟩
          replace BZ := BZ.grown hg (by omega)
          replace BY := BY.grown hg (by omega)
          replace hG := grown_trans hG hg
          clear hg
          have wz6 : IntKind.i64.wrap (r6 - 1) = r6 - 1 := IntWalk.i64_in _ (by omega)
          (try go_wp2_with fail)
          refine hko hK trivial fun hHeld => ?_
          clear hK K
          refine tk 7 11 ?_
          refine wpAnyH_ready (rs := [0, 9]) (by kernel_rfl) (by simp) ?_
          refine AllReadyH.cons (o := { dst := some 4, op := _, type := _, pos := _, after := _, guard := _ }) rfl (fun K hK => ?_) (AllReadyH.cons (o := { dst := some 13, op := _, type := _, pos := _, after := _, guard := _ }) rfl (fun K hK => ?_) AllReadyH.nil)
          · go_simp
            (try go_wp2_with fail)
            refine hko hK trivial fun hHeld => ?_
            clear hK K
            have BX := Blk.new w_r6 #[.int .i64 1, .int .i64 2, .int .i64 4, .int .i64 8, .int .i64 16, .int .i64 64, .int .i64 1024] 2
            have hz_bx : w.heap.size < w_r6.heap.size := BZ.lt
            have hg_bx : g < w_r6.heap.size := hS.lt
            have hy_bx : by_ < w_r6.heap.size := BY.lt
            replace BZ := BZ.alloc (.cells #[.int .i64 1, .int .i64 2, .int .i64 4, .int .i64 8, .int .i64 16, .int .i64 64, .int .i64 1024] 2)
            replace BY := BY.alloc (.cells #[.int .i64 1, .int .i64 2, .int .i64 4, .int .i64 8, .int .i64 16, .int .i64 64, .int .i64 1024] 2)
            replace hS := hS.alloc (.cells #[.int .i64 1, .int .i64 2, .int .i64 4, .int .i64 8, .int .i64 16, .int .i64 64, .int .i64 1024] 2)
            replace hG := grown_alloc hG (.cells #[.int .i64 1, .int .i64 2, .int .i64 4, .int .i64 8, .int .i64 16, .int .i64 64, .int .i64 1024] 2)
            generalize w_r6.alloc (.cells #[.int .i64 1, .int .i64 2, .int .i64 4, .int .i64 8, .int .i64 16, .int .i64 64, .int .i64 1024] 2) = wX at *
            generalize w_r6.heap.size = bx at *
            refine tk 3 7 ?_
            refine wpAnyH_more (S' := fun w' => True ∧ w'.cell? ⟨bx, k, none⟩ = some (.int .i64 M)) (fun _ h => h.1) ?_
            have hHeld0 := hHeld
            clear hHeld
            have hHeld := (⟨trivial, (BX.cell _).trans hget⟩ : True ∧ _)
            clear hHeld0
            refine tk 4 8 ?_
            refine rdk 9 13 fun K hK => ?_
            go_simp
            refine (next_any B g a len cap 2 _ hS (by omega)).mono ?_
            rintro e w_r9 ⟨r9, rfl, q_r9, u_r9, hS, hg⟩
            replace BZ := BZ.grown hg (by omega)
            replace BX := BX.grown hg (by omega)
            replace BY := BY.grown hg (by omega)
            replace hG := grown_trans hG hg
            clear hg
            have wz9 : IntKind.i64.wrap (r9 - 1) = r9 - 1 := IntWalk.i64_in _ (by omega)
            (try go_wp2_with fail)
            refine hko hK ⟨trivial, (BX.cell _).trans hget⟩ fun hHeld => ?_
            clear hK K
            refine tk 10 14 ?_
            refine tk 11 15 ?_
            refine rdn 13 fun K hK => ?_
            clear hHeld
            obtain ⟨z0, z1, z2, zf, zl⟩ := BY.t3
            go_simp
            (try go_wp2_with fail)
            refine hko hK ⟨trivial, ((((BX.other (by omega)).other (by omega)).other (by omega)).cell _).trans hget⟩ fun hHeld => ?_
            clear hK K
            clear z0 z1 z2 zf zl
            replace BZ := ((BZ.other (g := by_) (o := 0) (v := .int .i64 M) (by omega)).other (g := by_) (o := 1) (v := .bool (r6 == 0)) (by omega)).other (g := by_) (o := 2) (v := .bool (r9 == 0)) (by omega)
            replace hS := ((hS.set (g' := by_) (o := 0) (v := .int .i64 M) (by omega) (by omega)).set (g' := by_) (o := 1) (v := .bool (r6 == 0)) (by omega) (by omega)).set (g' := by_) (o := 2) (v := .bool (r9 == 0)) (by omega) (by omega)
            replace hG := grown_new (g' := by_) (o := 2) (v := .bool (r9 == 0)) (grown_new (g' := by_) (o := 1) (v := .bool (r6 == 0)) (grown_new (g' := by_) (o := 0) (v := .int .i64 M) hG (by omega)) (by omega)) (by omega)
            have BYn : Blk (((w_r9.setCell ⟨by_, 0, none⟩ (.int .i64 M)).setCell ⟨by_, 1, none⟩ (.bool (r6 == 0))).setCell ⟨by_, 2, none⟩ (.bool (r9 == 0))) by_ #[.int .i64 M, .bool (r6 == 0), .bool (r9 == 0)] 37 := by simpa using ((BY.set (i := 0) (.int .i64 M)).set (i := 1) (.bool (r6 == 0))).set (i := 2) (.bool (r9 == 0))
            refine wpAnyH_done (by kernel_rfl) ?_ _
            clear hHeld
            (try go_wp2_with fail)
            go_meet
            case rel => exact ⟨by_, M, _, _, rfl, BYn, BZ, hS, hG, by omega⟩
          · go_simp
            refine (next_any B g a len cap 2 _ hS (by omega)).mono ?_
            rintro e w_r9 ⟨r9, rfl, q_r9, u_r9, hS, hg⟩
            replace BZ := BZ.grown hg (by omega)
            replace BY := BY.grown hg (by omega)
            replace hG := grown_trans hG hg
            clear hg
            have wz9 : IntKind.i64.wrap (r9 - 1) = r9 - 1 := IntWalk.i64_in _ (by omega)
            (try go_wp2_with fail)
            refine hko hK trivial fun hHeld => ?_
            clear hK K
            refine tk 10 14 ?_
            refine rdk 0 4 fun K hK => ?_
            go_simp
            (try go_wp2_with fail)
            refine hko hK trivial fun hHeld => ?_
            clear hK K
            have BX := Blk.new w_r9 #[.int .i64 1, .int .i64 2, .int .i64 4, .int .i64 8, .int .i64 16, .int .i64 64, .int .i64 1024] 2
            have hz_bx : w.heap.size < w_r9.heap.size := BZ.lt
            have hg_bx : g < w_r9.heap.size := hS.lt
            have hy_bx : by_ < w_r9.heap.size := BY.lt
            replace BZ := BZ.alloc (.cells #[.int .i64 1, .int .i64 2, .int .i64 4, .int .i64 8, .int .i64 16, .int .i64 64, .int .i64 1024] 2)
            replace BY := BY.alloc (.cells #[.int .i64 1, .int .i64 2, .int .i64 4, .int .i64 8, .int .i64 16, .int .i64 64, .int .i64 1024] 2)
            replace hS := hS.alloc (.cells #[.int .i64 1, .int .i64 2, .int .i64 4, .int .i64 8, .int .i64 16, .int .i64 64, .int .i64 1024] 2)
            replace hG := grown_alloc hG (.cells #[.int .i64 1, .int .i64 2, .int .i64 4, .int .i64 8, .int .i64 16, .int .i64 64, .int .i64 1024] 2)
            generalize w_r9.alloc (.cells #[.int .i64 1, .int .i64 2, .int .i64 4, .int .i64 8, .int .i64 16, .int .i64 64, .int .i64 1024] 2) = wX at *
            generalize w_r9.heap.size = bx at *
            refine tk 3 7 ?_
            refine wpAnyH_more (S' := fun w' => True ∧ w'.cell? ⟨bx, k, none⟩ = some (.int .i64 M)) (fun _ h => h.1) ?_
            have hHeld0 := hHeld
            clear hHeld
            have hHeld := (⟨trivial, (BX.cell _).trans hget⟩ : True ∧ _)
            clear hHeld0
            refine tk 4 8 ?_
            refine tk 11 15 ?_
            refine rdn 13 fun K hK => ?_
            clear hHeld
            obtain ⟨z0, z1, z2, zf, zl⟩ := BY.t3
            go_simp
            (try go_wp2_with fail)
            refine hko hK ⟨trivial, ((((BX.other (by omega)).other (by omega)).other (by omega)).cell _).trans hget⟩ fun hHeld => ?_
            clear hK K
            clear z0 z1 z2 zf zl
            replace BZ := ((BZ.other (g := by_) (o := 0) (v := .int .i64 M) (by omega)).other (g := by_) (o := 1) (v := .bool (r6 == 0)) (by omega)).other (g := by_) (o := 2) (v := .bool (r9 == 0)) (by omega)
            replace hS := ((hS.set (g' := by_) (o := 0) (v := .int .i64 M) (by omega) (by omega)).set (g' := by_) (o := 1) (v := .bool (r6 == 0)) (by omega) (by omega)).set (g' := by_) (o := 2) (v := .bool (r9 == 0)) (by omega) (by omega)
            replace hG := grown_new (g' := by_) (o := 2) (v := .bool (r9 == 0)) (grown_new (g' := by_) (o := 1) (v := .bool (r6 == 0)) (grown_new (g' := by_) (o := 0) (v := .int .i64 M) hG (by omega)) (by omega)) (by omega)
            have BYn : Blk (((wX.setCell ⟨by_, 0, none⟩ (.int .i64 M)).setCell ⟨by_, 1, none⟩ (.bool (r6 == 0))).setCell ⟨by_, 2, none⟩ (.bool (r9 == 0))) by_ #[.int .i64 M, .bool (r6 == 0), .bool (r9 == 0)] 37 := by simpa using ((BY.set (i := 0) (.int .i64 M)).set (i := 1) (.bool (r6 == 0))).set (i := 2) (.bool (r9 == 0))
            refine wpAnyH_done (by kernel_rfl) ?_ _
            clear hHeld
            (try go_wp2_with fail)
            go_meet
            case rel => exact ⟨by_, M, _, _, rfl, BYn, BZ, hS, hG, by omega⟩
  case rest =>
    clear BZ hS hG
    obtain ⟨bY, M, x, y, rfl, BY, BZ, hS, hG, hbY⟩ := hcut
    go_wp2_with fail
    refine (next_any B g a len cap 24 _ hS (by omega)).mono ?_
    rintro e w1 ⟨r, rfl, q_r, u_r, hS, hg⟩
    have hz1 := hg.size
    replace BY := BY.grown hg (by have := BY.lt; omega)
    replace BZ := BZ.grown hg (by omega)
    replace hG := grown_trans hG hg
    clear hg
    by_cases h0 : r = 0
    · subst h0
      have hal : Below w1.heap.size w1 (w1.alloc (.cells #[.int .i64 0, .int .i64 3, .int .i64 2048, .int .i64 (-4)] 2)) := (Below.refl _ _).alloc (Nat.le_refl _) _
      have hg0 := hS.lt
      have hy0 := BY.lt
      have hz0 := BZ.lt
      go_wp2_with fail
      have BX := Blk.new w1 #[.int .i64 0, .int .i64 3, .int .i64 2048, .int .i64 (-4)] 2
      replace BY := BY.below hal
      replace BZ := BZ.below hal
      replace hS := hS.alloc (.cells #[.int .i64 0, .int .i64 3, .int .i64 2048, .int .i64 (-4)] 2)
      replace hG := grown_alloc hG (.cells #[.int .i64 0, .int .i64 3, .int .i64 2048, .int .i64 (-4)] 2)
      clear hal
      refine (next_any B g a len cap 4 _ hS (by omega)).mono ?_
      rintro e w2 ⟨q, rfl, q1, q2, hS, hg⟩
      replace BX := BX.grown hg (by omega)
      replace BY := BY.grown hg (by omega)
      replace BZ := BZ.grown hg (by omega)
      replace hG := grown_trans hG hg
      obtain ⟨k, rfl⟩ := Int.eq_ofNat_of_zero_le q1
      have hk : k < 4 := by omega
      have hk1 : (k : Int) < 4 := by omega
      have hk0 : (0 : Int) ≤ (k : Int) := by omega
      obtain ⟨M2, hget⟩ := get4 k hk
      have c0 := (BX.cell k).trans hget
      clear hg q1 q2 hget
      obtain ⟨y0, y1, y2, yf, yl⟩ := BY.t3
      obtain ⟨z0, z1, z2, zf, zl⟩ := BZ.t3
      go_wp2
      replace BZ := BZ.other (g := bY) (o := 0) (v := .int .i64 M2) (by omega)
      replace hS := hS.set (g' := bY) (o := 0) (v := .int .i64 M2) (by omega) (by omega)
      replace hG := grown_new (g' := bY) (o := 0) (v := .int .i64 M2) hG (by omega)
      have BZn := ((BZ.set (i := 0) (.int .i64 M2)).set (i := 1) (.bool x)).set (i := 2) (.bool y)
      obtain ⟨t0, t1, t2, tf, tl⟩ := BZn.t3
      refine bodyPost_ret (v := .agg #[.int .i64 M2, .bool x, .bool y]) (by simp [results, Tryd.results32, go_sem, t0, t1, t2]) rfl ?_
      exact ⟨M2, x, y, rfl, ((hS.set (by omega) (by omega)).set (by omega) (by omega)).set (by omega) (by omega), grown_new (grown_new (grown_new hG (Nat.le_refl _)) (Nat.le_refl _)) (Nat.le_refl _)⟩
    · have f0 : (r == 0) = false := by rw [beq_eq_false_iff_ne]; exact h0
      clear h0 q_r u_r
      obtain ⟨y0, y1, y2, yf, yl⟩ := BY.t3
      obtain ⟨z0, z1, z2, zf, zl⟩ := BZ.t3
      go_wp2
      have BZn := ((BZ.set (i := 0) (.int .i64 M)).set (i := 1) (.bool x)).set (i := 2) (.bool y)
      obtain ⟨t0, t1, t2, tf, tl⟩ := BZn.t3
      refine bodyPost_ret (v := .agg #[.int .i64 M, .bool x, .bool y]) (by simp [results, Tryd.results32, go_sem, t0, t1, t2]) rfl ?_
      exact ⟨M, x, y, rfl, ((hS.set (by omega) (by omega)).set (by omega) (by omega)).set (by omega) (by omega), grown_new (grown_new (grown_new hG (Nat.le_refl _)) (Nat.le_refl _)) (Nat.le_refl _)⟩
/-- A cube has been drawn. -/
def CubePost (B g : Nat) (a : Option Addr) (len cap : Nat) (w : World) (e : Ending) (w' : World) : Prop :=
  ∃ v o : Int, e = .returned (.agg #[.int .i64 v, .int .i64 o]) ∧ Src B w' g a len cap ∧ w.grownBy w' (some g)
set_option maxRecDepth 8000 in
set_option maxHeartbeats 2000000 in
theorem drawCube16_any (B g : Nat) (m : Int) (be ja : Bool) (a : Option Addr) (len cap : Nat) (w : World) (hS : Src B w g a len cap) :
    Calls Tryd.prog 33 #[.pointer (some ⟨g, 0, none⟩), .agg #[.int .i64 m, .bool be, .bool ja]] w (CubePost B g a len cap w) := by
  have hgl := hS.lt
  have hBg := hS.base
  obtain ⟨BR, BZ, hb, hz⟩ := two_new w #[.int .i64 m, .bool be, .bool ja] #[.int .i64 0, .int .i64 0] 37 25
  clear hz
  replace hS := hS.below hb
  have hG : w.grownBy ((w.alloc (.cells #[.int .i64 m, .bool be, .bool ja] 37)).alloc (.cells #[.int .i64 0, .int .i64 0] 25)) (some g) := grown_of_below hb _
  go_enter Tryd.func33, Tryd.ntmps33
  go_wp2_with fail
  generalize ((w.alloc (.cells #[.int .i64 m, .bool be, .bool ja] 37)).alloc (.cells #[.int .i64 0, .int .i64 0] 25)) = v0 at *
  refine (next_any B g a len cap 12 _ hS (by omega)).mono ?_
  rintro e w1 ⟨r, rfl, q_r, u_r, hS, hg⟩
  replace BR := BR.grown hg (by omega)
  replace BZ := BZ.grown hg (by omega)
  replace hG := grown_trans hG hg
  clear hg hb
  by_cases h0 : r = 0
  · subst h0
    go_wp2_with fail
    clear BR
    refine wp_region_held_drew (S := fun _ => True) (by kernel_rfl) trivial (fun hHeld => ?_)
    clear hHeld
    replace BZ := BZ.drew
    replace hS := hS.drew
    replace hG := grown_drew hG
    generalize w1.drew = vd at *
    have hHeld : True := trivial
    refine tk 1 11 ?_
    refine tk 5 15 ?_
    refine wpAnyH_ready (rs := [0, 2]) (by kernel_rfl) (by simp) ?_
    refine AllReadyH.cons (o := { dst := some 10, op := _, type := _, pos := _, after := _, guard := _ }) rfl (fun K hK => ?_) (AllReadyH.cons (o := { dst := some 12, op := _, type := _, pos := _, after := _, guard := _ }) rfl (fun K hK => ?_) AllReadyH.nil)
    · go_simp
      (try go_wp2_with fail)
      refine hko hK trivial fun hHeld => ?_
      clear hK K
      have BX := Blk.new vd #[.int .i64 0, .int .i64 1, .int .i64 2, .int .i64 3, .int .i64 4, .int .i64 2048] 2
      have hz_bx : w.heap.size + 1 < vd.heap.size := BZ.lt
      have hg_bx : g < vd.heap.size := hS.lt
      replace BZ := BZ.alloc (.cells #[.int .i64 0, .int .i64 1, .int .i64 2, .int .i64 3, .int .i64 4, .int .i64 2048] 2)
      replace hS := hS.alloc (.cells #[.int .i64 0, .int .i64 1, .int .i64 2, .int .i64 3, .int .i64 4, .int .i64 2048] 2)
      replace hG := grown_alloc hG (.cells #[.int .i64 0, .int .i64 1, .int .i64 2, .int .i64 3, .int .i64 4, .int .i64 2048] 2)
      generalize vd.alloc (.cells #[.int .i64 0, .int .i64 1, .int .i64 2, .int .i64 3, .int .i64 4, .int .i64 2048] 2) = wX at *
      generalize vd.heap.size = bx at *
      refine rdk 2 12 fun K hK => ?_
      go_simp
      refine (next_any B g a len cap 6 _ hS (by omega)).mono ?_
      rintro e w_r2 ⟨r2, rfl, q_r2, u_r2, hS, hg⟩
      replace BZ := BZ.grown hg (by omega)
      replace BX := BX.grown hg (by omega)
      replace hG := grown_trans hG hg
      clear hg
      obtain ⟨k, rfl⟩ := Int.eq_ofNat_of_zero_le q_r2
      have hk : k < 6 := by omega
      have hk1 : (k : Int) < 6 := by omega
      have hk0 : (0 : Int) ≤ (k : Int) := by omega
      obtain ⟨M, hget⟩ := get6 k hk
      (try go_wp2_with fail)
      refine hko hK trivial fun hHeld => ?_
      clear hK K
      refine tk 3 13 ?_
      refine wpAnyH_more (S' := fun w' => True ∧ w'.cell? ⟨bx, k, none⟩ = some (.int .i64 M)) (fun _ h => h.1) ?_
      have hHeld0 := hHeld
      clear hHeld
      have hHeld := (⟨trivial, (BX.cell _).trans hget⟩ : True ∧ _)
      clear hHeld0
      refine tk 4 14 ?_
      refine rdk 6 16 fun K hK => ?_
      go_simp
      refine (next_any B g a len cap 5 _ hS (by omega)).mono ?_
      rintro e w_r6 ⟨r6, rfl, q_r6, u_r6, hS, hg⟩
      replace BZ := BZ.grown hg (by omega)
      replace BX := BX.grown hg (by omega)
      replace hG := grown_trans hG hg
      clear hg
      have wz6 : IntKind.i64.wrap (r6 - 1) = r6 - 1 := IntWalk.i64_in _ (by omega)
      (try go_wp2_with fail)
      refine hko hK ⟨trivial, (BX.cell _).trans hget⟩ fun hHeld => ?_
      clear hK K
      refine tk 7 17 ?_
      refine tk 8 18 ?_
      refine rdn 9 fun K hK => ?_
      clear hHeld
      obtain ⟨z0, z1, zf, zl⟩ := BZ.two
      go_simp
      (try go_wp2_with fail)
      refine hko hK ⟨trivial, (((BX.other (by omega)).other (by omega)).cell _).trans hget⟩ fun hHeld => ?_
      clear hK K
      clear z0 z1 zf zl
      refine wpAnyH_done (by kernel_rfl) ?_ _
      clear hHeld
      go_wp2_with fail
      have BZn := (BZ.set (i := 0) (.int .i64 M)).set (i := 1) (.int .i64 (r6 - 1))
      obtain ⟨t0, t1, tf, tl⟩ := BZn.two
      refine bodyPost_ret (v := .agg #[.int .i64 M, .int .i64 (r6 - 1)]) (by simp [results, Tryd.results33, go_sem, t0, t1]) rfl ?_
      exact ⟨_, _, rfl, (hS.set (by omega) (by omega)).set (by omega) (by omega), grown_new (grown_new hG (by omega)) (by omega)⟩
    · go_simp
      refine (next_any B g a len cap 6 _ hS (by omega)).mono ?_
      rintro e w_r2 ⟨r2, rfl, q_r2, u_r2, hS, hg⟩
      replace BZ := BZ.grown hg (by omega)
      replace hG := grown_trans hG hg
      clear hg
      obtain ⟨k, rfl⟩ := Int.eq_ofNat_of_zero_le q_r2
      have hk : k < 6 := by omega
      have hk1 : (k : Int) < 6 := by omega
      have hk0 : (0 : Int) ≤ (k : Int) := by omega
      obtain ⟨M, hget⟩ := get6 k hk
      (try go_wp2_with fail)
      refine hko hK trivial fun hHeld => ?_
      clear hK K
      refine wpAnyH_ready (rs := [0, 6]) (by kernel_rfl) (by simp) ?_
      refine AllReadyH.cons (o := { dst := some 10, op := _, type := _, pos := _, after := _, guard := _ }) rfl (fun K hK => ?_) (AllReadyH.cons (o := { dst := some 16, op := _, type := _, pos := _, after := _, guard := _ }) rfl (fun K hK => ?_) AllReadyH.nil)
      · go_simp
        (try go_wp2_with fail)
        refine hko hK trivial fun hHeld => ?_
        clear hK K
        have BX := Blk.new w_r2 #[.int .i64 0, .int .i64 1, .int .i64 2, .int .i64 3, .int .i64 4, .int .i64 2048] 2
        have hz_bx : w.heap.size + 1 < w_r2.heap.size := BZ.lt
        have hg_bx : g < w_r2.heap.size := hS.lt
        replace BZ := BZ.alloc (.cells #[.int .i64 0, .int .i64 1, .int .i64 2, .int .i64 3, .int .i64 4, .int .i64 2048] 2)
        replace hS := hS.alloc (.cells #[.int .i64 0, .int .i64 1, .int .i64 2, .int .i64 3, .int .i64 4, .int .i64 2048] 2)
        replace hG := grown_alloc hG (.cells #[.int .i64 0, .int .i64 1, .int .i64 2, .int .i64 3, .int .i64 4, .int .i64 2048] 2)
        generalize w_r2.alloc (.cells #[.int .i64 0, .int .i64 1, .int .i64 2, .int .i64 3, .int .i64 4, .int .i64 2048] 2) = wX at *
        generalize w_r2.heap.size = bx at *
        refine tk 3 13 ?_
        refine wpAnyH_more (S' := fun w' => True ∧ w'.cell? ⟨bx, k, none⟩ = some (.int .i64 M)) (fun _ h => h.1) ?_
        have hHeld0 := hHeld
        clear hHeld
        have hHeld := (⟨trivial, (BX.cell _).trans hget⟩ : True ∧ _)
        clear hHeld0
        refine tk 4 14 ?_
        refine rdk 6 16 fun K hK => ?_
        go_simp
        refine (next_any B g a len cap 5 _ hS (by omega)).mono ?_
        rintro e w_r6 ⟨r6, rfl, q_r6, u_r6, hS, hg⟩
        replace BZ := BZ.grown hg (by omega)
        replace BX := BX.grown hg (by omega)
        replace hG := grown_trans hG hg
        clear hg
        have wz6 : IntKind.i64.wrap (r6 - 1) = r6 - 1 := IntWalk.i64_in _ (by omega)
        (try go_wp2_with fail)
        refine hko hK ⟨trivial, (BX.cell _).trans hget⟩ fun hHeld => ?_
        clear hK K
        refine tk 7 17 ?_
        refine tk 8 18 ?_
        refine rdn 9 fun K hK => ?_
        clear hHeld
        obtain ⟨z0, z1, zf, zl⟩ := BZ.two
        go_simp
        (try go_wp2_with fail)
        refine hko hK ⟨trivial, (((BX.other (by omega)).other (by omega)).cell _).trans hget⟩ fun hHeld => ?_
        clear hK K
        clear z0 z1 zf zl
        refine wpAnyH_done (by kernel_rfl) ?_ _
        clear hHeld
        go_wp2_with fail
        have BZn := (BZ.set (i := 0) (.int .i64 M)).set (i := 1) (.int .i64 (r6 - 1))
        obtain ⟨t0, t1, tf, tl⟩ := BZn.two
        refine bodyPost_ret (v := .agg #[.int .i64 M, .int .i64 (r6 - 1)]) (by simp [results, Tryd.results33, go_sem, t0, t1]) rfl ?_
        exact ⟨_, _, rfl, (hS.set (by omega) (by omega)).set (by omega) (by omega), grown_new (grown_new hG (by omega)) (by omega)⟩
      · go_simp
        refine (next_any B g a len cap 5 _ hS (by omega)).mono ?_
        rintro e w_r6 ⟨r6, rfl, q_r6, u_r6, hS, hg⟩
        replace BZ := BZ.grown hg (by omega)
        replace hG := grown_trans hG hg
        clear hg
        have wz6 : IntKind.i64.wrap (r6 - 1) = r6 - 1 := IntWalk.i64_in _ (by omega)
        (try go_wp2_with fail)
        refine hko hK trivial fun hHeld => ?_
        clear hK K
        refine tk 7 17 ?_
        refine rdk 0 10 fun K hK => ?_
        go_simp
        (try go_wp2_with fail)
        refine hko hK trivial fun hHeld => ?_
        clear hK K
        have BX := Blk.new w_r6 #[.int .i64 0, .int .i64 1, .int .i64 2, .int .i64 3, .int .i64 4, .int .i64 2048] 2
        have hz_bx : w.heap.size + 1 < w_r6.heap.size := BZ.lt
        have hg_bx : g < w_r6.heap.size := hS.lt
        replace BZ := BZ.alloc (.cells #[.int .i64 0, .int .i64 1, .int .i64 2, .int .i64 3, .int .i64 4, .int .i64 2048] 2)
        replace hS := hS.alloc (.cells #[.int .i64 0, .int .i64 1, .int .i64 2, .int .i64 3, .int .i64 4, .int .i64 2048] 2)
        replace hG := grown_alloc hG (.cells #[.int .i64 0, .int .i64 1, .int .i64 2, .int .i64 3, .int .i64 4, .int .i64 2048] 2)
        generalize w_r6.alloc (.cells #[.int .i64 0, .int .i64 1, .int .i64 2, .int .i64 3, .int .i64 4, .int .i64 2048] 2) = wX at *
        generalize w_r6.heap.size = bx at *
        refine tk 3 13 ?_
        refine wpAnyH_more (S' := fun w' => True ∧ w'.cell? ⟨bx, k, none⟩ = some (.int .i64 M)) (fun _ h => h.1) ?_
        have hHeld0 := hHeld
        clear hHeld
        have hHeld := (⟨trivial, (BX.cell _).trans hget⟩ : True ∧ _)
        clear hHeld0
        refine tk 4 14 ?_
        refine tk 8 18 ?_
        refine rdn 9 fun K hK => ?_
        clear hHeld
        obtain ⟨z0, z1, zf, zl⟩ := BZ.two
        go_simp
        (try go_wp2_with fail)
        refine hko hK ⟨trivial, (((BX.other (by omega)).other (by omega)).cell _).trans hget⟩ fun hHeld => ?_
        clear hK K
        clear z0 z1 zf zl
        refine wpAnyH_done (by kernel_rfl) ?_ _
        clear hHeld
        go_wp2_with fail
        have BZn := (BZ.set (i := 0) (.int .i64 M)).set (i := 1) (.int .i64 (r6 - 1))
        obtain ⟨t0, t1, tf, tl⟩ := BZn.two
        refine bodyPost_ret (v := .agg #[.int .i64 M, .int .i64 (r6 - 1)]) (by simp [results, Tryd.results33, go_sem, t0, t1]) rfl ?_
        exact ⟨_, _, rfl, (hS.set (by omega) (by omega)).set (by omega) (by omega), grown_new (grown_new hG (by omega)) (by omega)⟩
  · have f0 : (r == 0) = false := by rw [beq_eq_false_iff_ne]; exact h0
    clear h0 q_r u_r
    go_wp2_with fail
    refine (next_any B g a len cap 6 _ hS (by omega)).mono ?_
    rintro e w2 ⟨n, rfl, q_n, u_n, hS, hg⟩
    replace BR := BR.grown hg (by omega)
    replace BZ := BZ.grown hg (by omega)
    replace hG := grown_trans hG hg
    clear hg
    obtain ⟨n, rfl⟩ := Int.eq_ofNat_of_zero_le q_n
    have hn5 : n ≤ 5 := by omega
    clear q_n u_n
    have hp5 : p2 n ≤ p2 5 := p2_mono hn5
    rw [show p2 5 = 32 by decide] at hp5
    have HP5 := Lib.hid hp5
    clear hp5
    go_wp2_with fail
    go_loopg [5, 6] n (fun q vv nn wr => w2 = wr ∧ ∃ (x : Int) (j : Nat), j ≤ n ∧ q = j ∧ vv = .int .i64 x ∧ nn = .int .i64 j ∧ 1 ≤ x ∧ x * p2 j ≤ 32)
    case atStart => exact ⟨rfl, 1, n, Nat.le_refl _, rfl, rfl, rfl, by omega, by rw [Int.one_mul]; exact HP5.out⟩
    case round =>
      obtain ⟨rfl, x, j, hj, hq, rfl, rfl, hx1, hx2⟩ := hrel
      have hx3 : x ≤ 32 := by
        have h1 := p2_pos j
        have h2 : x * 1 ≤ x * p2 j := Int.mul_le_mul_of_nonneg_left h1 (by omega)
        omega
      obtain ⟨x0, x1, x2, xf, xl⟩ := BR.t3
      obtain ⟨z0, z1, zf, zl⟩ := BZ.two
      have END : True := trivial
      by_cases hj0 : 0 < j
      · obtain ⟨i, rfl⟩ : ∃ i, j = i + 1 := ⟨j - 1, by omega⟩
        rw [p2_succ] at hx2
        have hx4 : 2 * x * p2 i ≤ 32 := by rw [Int.mul_comm 2 x, Int.mul_assoc]; exact hx2
        have f1 : decide ((0 : Int) < ((i + 1 : Nat) : Int)) = true := decide_eq_true (by omega)
        have f2 : (0 : Int) < ((i + 1 : Nat) : Int) := by omega
        have HX4 := Lib.hid hx4
        clear hx2 hx4
        by_cases hm : 2 * x ≤ m
        · have f3 : decide (2 * x ≤ m) = true := decide_eq_true hm
          go_wp2
          go_roundg i
          case measure => omega
          case rel => exact ⟨rfl, 2 * x, i, by omega, rfl, rfl, by go_num, by omega, HX4.out⟩
        · have f3 : decide (2 * x ≤ m) = false := decide_eq_false hm
          by_cases hv1 : x = 1
          · have f4 : (x == 1) = true := by rw [beq_iff_eq]; exact hv1
            go_wp2
            have BZn := (BZ.set (i := 0) (.int .i64 1)).set (i := 1) (.int .i64 0)
            obtain ⟨t0, t1, tf, tl⟩ := BZn.two
            refine bodyPost_ret (v := .agg #[.int .i64 1, .int .i64 0]) (by simp [results, Tryd.results33, go_sem, t0, t1]) rfl ?_
            exact ⟨_, _, rfl, (hS.set (by omega) (by omega)).set (by omega) (by omega), grown_new (grown_new hG (by omega)) (by omega)⟩
          · have f4 : (x == 1) = false := by rw [beq_eq_false_iff_ne]; exact hv1
            go_wp2_with fail
            refine (next_any B g a len cap 2 _ hS (by omega)).mono ?_
            rintro e w3 ⟨r2, rfl, q_r2, u_r2, hS, hg⟩
            replace BZ := BZ.grown hg (by omega)
            replace hG := grown_trans hG hg
            clear hg
            obtain ⟨z0, z1, zf, zl⟩ := BZ.two
            have wz : IntKind.i64.wrap (1 + r2) = 1 + r2 := IntWalk.i64_in _ (by omega)
            go_wp2
            have BZn := (BZ.set (i := 0) (.int .i64 x)).set (i := 1) (.int .i64 (1 + r2))
            obtain ⟨t0, t1, tf, tl⟩ := BZn.two
            refine bodyPost_ret (v := .agg #[.int .i64 x, .int .i64 (1 + r2)]) (by simp [results, Tryd.results33, go_sem, t0, t1]) rfl ?_
            exact ⟨_, _, rfl, (hS.set (by omega) (by omega)).set (by omega) (by omega), grown_new (grown_new hG (by omega)) (by omega)⟩
      · obtain rfl : j = 0 := by omega
        by_cases hv1 : x = 1
        · have f4 : (x == 1) = true := by rw [beq_iff_eq]; exact hv1
          go_wp2
          have BZn := (BZ.set (i := 0) (.int .i64 1)).set (i := 1) (.int .i64 0)
          obtain ⟨t0, t1, tf, tl⟩ := BZn.two
          refine bodyPost_ret (v := .agg #[.int .i64 1, .int .i64 0]) (by simp [results, Tryd.results33, go_sem, t0, t1]) rfl ?_
          exact ⟨_, _, rfl, (hS.set (by omega) (by omega)).set (by omega) (by omega), grown_new (grown_new hG (by omega)) (by omega)⟩
        · have f4 : (x == 1) = false := by rw [beq_eq_false_iff_ne]; exact hv1
          go_wp2_with fail
          refine (next_any B g a len cap 2 _ hS (by omega)).mono ?_
          rintro e w3 ⟨r2, rfl, q_r2, u_r2, hS, hg⟩
          replace BZ := BZ.grown hg (by omega)
          replace hG := grown_trans hG hg
          clear hg
          obtain ⟨z0, z1, zf, zl⟩ := BZ.two
          have wz : IntKind.i64.wrap (1 + r2) = 1 + r2 := IntWalk.i64_in _ (by omega)
          go_wp2
          have BZn := (BZ.set (i := 0) (.int .i64 x)).set (i := 1) (.int .i64 (1 + r2))
          obtain ⟨t0, t1, tf, tl⟩ := BZn.two
          refine bodyPost_ret (v := .agg #[.int .i64 x, .int .i64 (1 + r2)]) (by simp [results, Tryd.results33, go_sem, t0, t1]) rfl ?_
          exact ⟨_, _, rfl, (hS.set (by omega) (by omega)).set (by omega) (by omega), grown_new (grown_new hG (by omega)) (by omega)⟩
end Go.Proofs.YtkcjbjkccafekaaDoor
