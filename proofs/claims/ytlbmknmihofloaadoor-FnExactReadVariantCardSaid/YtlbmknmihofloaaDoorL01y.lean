/- Contract of the model's reader of variants. -/
import Derived.Test.YtlbmknmihofloaaDoorL01v
import Derived.Test.YtlbmknmihofloaaDoorL01w
import Derived.Test.YtlbmknmihofloaaDoorL01x
import Derived.LoopN
import Derived.Deep.RegionHeld3
namespace Go.Proofs.YtlbmknmihofloaaDoor
open Go.ChangeShapes Go.WideShapes Go.ChangeAt Go.RowKit
set_option linter.unusedVariables false
set_option linter.unusedSimpArgs false

theorem split_words (y : Nat) : ∀ (l : List UInt8) (x : List UInt8), x ∈ splitL y l → x.length ≤ l.length
  | [], x, h => by simp [splitL] at h; simp [h]
  | b :: r, x, h => by
    rw [splitL] at h
    split at h
    · rcases List.mem_cons.1 h with rfl | h
      · simp
      · have := split_words y r x h
        simp; omega
    · cases hs : splitL y r with
      | nil => exact absurd hs (splitL_ne y r)
      | cons p q =>
        rw [hs] at h
        rcases List.mem_cons.1 h with rfl | h
        · have := split_words y r p (by rw [hs]; simp)
          simp; omega
        · have := split_words y r x (by rw [hs]; simp [h])
          simp; omega
theorem infoI64 : (Tryd.prog.info? 2).map (fun i => (i.zero, i.size, i.bytes)) = some (some (.int .i64 0), 1, 8) := by kernel_rfl
theorem keepc {w w' : World} {g j B : Nat} {v : Value} (h : w.cell? ⟨g, j, none⟩ = some v) (hg : g < B) (hb : Below B w w') : w'.cell? ⟨g, j, none⟩ = some v := by
  rw [hb.cell (p := ⟨g, j, none⟩) hg]; exact h
theorem vt_name (p c h s : Int) (t : ByteArray) : ∃ T : ByteArray, (T.toList == t.toList) = decide (vt p c h s = t.data.toList) ∧
    (∀ w, Calls Tryd.prog 9 #[.agg #[.int .i64 p, .int .i64 c, .int .i64 h, .int .i64 s]] w fun e w' => e = .returned (.string T) ∧ Below w.heap.size w w') :=
  ⟨_, by rw [ByteArray.toList_mk, ByteArray.toList_eq, Bool.eq_iff_iff]; simp, fun w => specVariantText_any p c h s w⟩
theorem val_name (x : List UInt8) (hx : x.length ≤ maxLen) : ∃ (n : Int) (b : Bool), n = (valL x).1 ∧ (∀ w, Calls Tryd.prog 26 #[.string ⟨x.toArray⟩] w fun e w' => e = .returned (.tuple #[.int .i64 n, .bool b]) ∧ w = w') :=
  ⟨_, _, rfl, fun w => value_any ⟨x.toArray⟩ w (by simpa [ByteArray.size] using hx)⟩

set_option maxHeartbeats 1000000 in
theorem specReadVariant_any (t : ByteArray) (w : World) (ht : t.size ≤ 1048576) :
    Calls Tryd.prog 15 #[.string t] w fun e w' => e = .returned (rvVal (rvS t.data.toList)) ∧ Below w.heap.size w w' := by
  obtain ⟨W, hW⟩ : ∃ W, splitL 47 t.data.toList = W := ⟨_, rfl⟩
  have hcall : ∀ w, Calls Tryd.prog 25 #[.string t, .int .u8 47] w (GotWords W w) := fun w => by
    have := split_any t 47 w ht
    rw [show (47 : UInt8).toNat = 47 from rfl, hW] at this
    exact this
  have HC := Lib.hid hcall
  clear hcall
  have hlen : ∀ x ∈ W, x.length ≤ maxLen := by
    intro x hx
    have := split_words 47 t.data.toList x (by rw [hW]; exact hx)
    have hs : t.data.toList.length = t.size := by simp
    unfold maxLen
    omega
  by_cases h4 : W.length = 4
  · match W, h4 with
    | [xa, xb, xc, xd], _ =>
    obtain ⟨na, ba, ea, ka⟩ := val_name xa (hlen _ (by simp))
    obtain ⟨nb, bb, eb, kb⟩ := val_name xb (hlen _ (by simp))
    obtain ⟨nc, bc, ec, kc⟩ := val_name xc (hlen _ (by simp))
    obtain ⟨nd, bd, ed, kd⟩ := val_name xd (hlen _ (by simp))
    have hr : rvS t.data.toList = if vt na nb nc nd = t.data.toList then some (na, nb, nc, nd) else none := by
      unfold rvS
      rw [hW, ea, eb, ec, ed]
      simp
    rw [hr]
    clear hr hW ea eb ec ed hlen
    obtain ⟨T, hT, htext⟩ := vt_name na nb nc nd t
    have KA := Lib.hid ka
    have KB := Lib.hid kb
    have KC := Lib.hid kc
    have KD := Lib.hid kd
    have HT := Lib.hid htext
    clear ka kb kc kd htext
    obtain ⟨i0, hi, hz0, hz1, hz2⟩ := info_parts infoI64
    by_cases q : vt na nb nc nd = t.data.toList
    · rw [if_pos q]
      simp only [q, decide_true] at hT
      clear q
      show Calls Tryd.prog 15 #[.string t] w fun e w' => e = .returned (.tuple #[.agg #[.int .i64 na, .int .i64 nb, .int .i64 nc, .int .i64 nd], .bool true]) ∧ Below w.heap.size w w'
      go_enter Tryd.func15, Tryd.ntmps15
      go_wp2_with fail
      refine (HC.out _).mono ?_
      rintro e w1 ⟨v, rfl, hown, hb1⟩
      obtain ⟨g, cap, rfl⟩ := Joins.ownsRow_form hown (by simp)
      have B0 := (Blk.new w _ _).below hb1
      have hb := from_alloc hb1
      have c0 : w1.cell? ⟨g, 0, none⟩ = some (.string ⟨xa.toArray⟩) := by rw [hown.cellAt 0 (by simp)]; rfl
      have c1 : w1.cell? ⟨g, 1, none⟩ = some (.string ⟨xb.toArray⟩) := by rw [hown.cellAt 1 (by simp)]; rfl
      have c2 : w1.cell? ⟨g, 2, none⟩ = some (.string ⟨xc.toArray⟩) := by rw [hown.cellAt 2 (by simp)]; rfl
      have c3 : w1.cell? ⟨g, 3, none⟩ = some (.string ⟨xd.toArray⟩) := by rw [hown.cellAt 3 (by simp)]; rfl
      have hg : g < w1.heap.size := World.block_lt_of_cell? w1 _ c0
      clear hown hb1 HC
      go_wp2_with fail
      have hown0 : (w1.alloc (.cells #[] 2)).ownsRow w1.heap.size 2 1 (.slice (some ⟨w1.heap.size, 0, none⟩) 0 0) 0 [] :=
        ⟨rfl, .inr ⟨w1.heap.size, 0, #[], rfl, Nat.le_refl _, Blk.new w1 #[] _, Nat.le_refl _, by unfold maxLen; omega, rfl, rfl⟩⟩
      have hq0 : Below w1.heap.size w1 (w1.alloc (.cells #[] 2)) := (Below.refl _ _).alloc (Nat.le_refl _) _
      generalize w1.alloc (.cells #[] 2) = v0 at *
      have k0 := keepc c0 hg hq0
      refine wp_loop_rounds 5 ?_
      rw [rounds_succ]
      have z0 := hq0.size
      go_wp2_with (first | (go_at_call 26; refine (KA.out _).mono ?_; rintro e w' ⟨rfl, rfl⟩) | (at_builtin; refine wpList_append1 rfl _ _ 48 rfl w1.heap.size 2 i0 (.int .i64 0) 8 Tryd.underlying48 hi hz0 hz1 hz2 rfl _ _ _ rfl hown0 (.int .i64 na) rfl rfl (by unfold maxLen; omega) (by omega) z0 ?_; intro g1 cap1 v1 hown1 hb1 _; have hq1 := hq0.trans hb1; clear hb1; have k1 := keepc c1 hg hq1))
      clear k0 z0
      rw [rounds_succ]
      have z1 := hq1.size
      go_wp2_with (first | (go_at_call 26; refine (KB.out _).mono ?_; rintro e w' ⟨rfl, rfl⟩) | (at_builtin; refine wpList_append1 rfl _ _ 48 rfl w1.heap.size 2 i0 (.int .i64 0) 8 Tryd.underlying48 hi hz0 hz1 hz2 rfl _ _ _ rfl hown1 (.int .i64 nb) rfl rfl (by unfold maxLen; omega) (by omega) z1 ?_; intro g2 cap2 v2 hown2 hb2 _; have hq2 := hq1.trans hb2; clear hb2; have k2 := keepc c2 hg hq2))
      clear k1 z1
      rw [rounds_succ]
      have z2 := hq2.size
      go_wp2_with (first | (go_at_call 26; refine (KC.out _).mono ?_; rintro e w' ⟨rfl, rfl⟩) | (at_builtin; refine wpList_append1 rfl _ _ 48 rfl w1.heap.size 2 i0 (.int .i64 0) 8 Tryd.underlying48 hi hz0 hz1 hz2 rfl _ _ _ rfl hown2 (.int .i64 nc) rfl rfl (by unfold maxLen; omega) (by omega) z2 ?_; intro g3 cap3 v3 hown3 hb3 _; have hq3 := hq2.trans hb3; clear hb3; have k3 := keepc c3 hg hq3))
      clear k2 z2
      rw [rounds_succ]
      have z3 := hq3.size
      go_wp2_with (first | (go_at_call 26; refine (KD.out _).mono ?_; rintro e w' ⟨rfl, rfl⟩) | (at_builtin; refine wpList_append1 rfl _ _ 48 rfl w1.heap.size 2 i0 (.int .i64 0) 8 Tryd.underlying48 hi hz0 hz1 hz2 rfl _ _ _ rfl hown3 (.int .i64 nd) rfl rfl (by unfold maxLen; omega) (by omega) z3 ?_; intro g4 cap4 v4 hown4 hb4 _; have hq4 := hq3.trans hb4; clear hb4))
      clear k3 z3
      rw [rounds_succ]
      have p0 : v4.cell? ⟨g4, 0, none⟩ = some (.int .i64 na) := by rw [hown4.cellAt 0 (by simp)]; rfl
      have p1 : v4.cell? ⟨g4, 1, none⟩ = some (.int .i64 nb) := by rw [hown4.cellAt 1 (by simp)]; rfl
      have p2 : v4.cell? ⟨g4, 2, none⟩ = some (.int .i64 nc) := by rw [hown4.cellAt 2 (by simp)]; rfl
      have p3 : v4.cell? ⟨g4, 3, none⟩ = some (.int .i64 nd) := by rw [hown4.cellAt 3 (by simp)]; rfl
      have hl4 : g4 < v4.heap.size := World.block_lt_of_cell? v4 _ p0
      have n0 := World.new_ne v4 _ p0
      have n1 := World.new_ne v4 _ p1
      have n2 := World.new_ne v4 _ p2
      have n3 := World.new_ne v4 _ p3
      clear hown0 hown1 hown2 hown3 hown4 KA KB KC KD
      go_wp2_with fail
      go_region_held3 (fun w' => w'.cell? ⟨g4, 0, none⟩ = some (.int .i64 na) ∧ w'.cell? ⟨g4, 1, none⟩ = some (.int .i64 nb) ∧ w'.cell? ⟨g4, 2, none⟩ = some (.int .i64 nc) ∧ w'.cell? ⟨g4, 3, none⟩ = some (.int .i64 nd))
        (first | exact ⟨p0, p1, p2, p3⟩ | go_keep) (fail)
      have B1 : Blk (v4.alloc (.cells #[.int .i64 na, .int .i64 nb, .int .i64 nc, .int .i64 nd] 25)).drew v4.heap.size #[.int .i64 na, .int .i64 nb, .int .i64 nc, .int .i64 nd] 25 := (Blk.new v4 _ _).drew
      replace B0 : Blk (v4.alloc (.cells #[.int .i64 na, .int .i64 nb, .int .i64 nc, .int .i64 nd] 25)).drew w.heap.size #[.int .i64 0, .int .i64 0, .int .i64 0, .int .i64 0] 25 := ((B0.below hq4).alloc _).drew
      replace hb : Below w.heap.size w (v4.alloc (.cells #[.int .i64 na, .int .i64 nb, .int .i64 nc, .int .i64 nd] 25)).drew := ((chain hb hq4).alloc (chain hb hq4).size _).drew
      clear hq0 hq1 hq2 hq3 hq4 p0 p1 p2 p3 n0 n1 n2 n3 hl4 c0 c1 c2 c3 hg
      go_wp2_with fail
      refine (HT.out _).mono ?_
      rintro e w5 ⟨rfl, hb5⟩
      replace B0 := B0.below hb5
      replace B1 := B1.below hb5
      replace hb := chain hb hb5
      clear hb5
      obtain ⟨y0, y1, y2, y3, yf, yl⟩ := B0.four
      obtain ⟨x0, x1, x2, x3, xf, xl⟩ := B1.four
      go_wp2_with fail
      refine bodyPost_ret (v := .tuple #[.agg #[.int .i64 na, .int .i64 nb, .int .i64 nc, .int .i64 nd], .bool true]) (by simp [results, Tryd.results15, go_sem, y0, y1, y2, y3]) rfl ?_
      exact ⟨rfl, (((hb.setCell (Nat.le_refl _) _).setCell (Nat.le_refl _) _).setCell (Nat.le_refl _) _).setCell (Nat.le_refl _) _⟩
    · rw [if_neg q]
      simp only [q, decide_false] at hT
      clear q
      show Calls Tryd.prog 15 #[.string t] w fun e w' => e = .returned (.tuple #[.agg #[.int .i64 0, .int .i64 0, .int .i64 0, .int .i64 0], .bool false]) ∧ Below w.heap.size w w'
      go_enter Tryd.func15, Tryd.ntmps15
      go_wp2_with fail
      refine (HC.out _).mono ?_
      rintro e w1 ⟨v, rfl, hown, hb1⟩
      obtain ⟨g, cap, rfl⟩ := Joins.ownsRow_form hown (by simp)
      have B0 := (Blk.new w _ _).below hb1
      have hb := from_alloc hb1
      have c0 : w1.cell? ⟨g, 0, none⟩ = some (.string ⟨xa.toArray⟩) := by rw [hown.cellAt 0 (by simp)]; rfl
      have c1 : w1.cell? ⟨g, 1, none⟩ = some (.string ⟨xb.toArray⟩) := by rw [hown.cellAt 1 (by simp)]; rfl
      have c2 : w1.cell? ⟨g, 2, none⟩ = some (.string ⟨xc.toArray⟩) := by rw [hown.cellAt 2 (by simp)]; rfl
      have c3 : w1.cell? ⟨g, 3, none⟩ = some (.string ⟨xd.toArray⟩) := by rw [hown.cellAt 3 (by simp)]; rfl
      have hg : g < w1.heap.size := World.block_lt_of_cell? w1 _ c0
      clear hown hb1 HC
      go_wp2_with fail
      have hown0 : (w1.alloc (.cells #[] 2)).ownsRow w1.heap.size 2 1 (.slice (some ⟨w1.heap.size, 0, none⟩) 0 0) 0 [] :=
        ⟨rfl, .inr ⟨w1.heap.size, 0, #[], rfl, Nat.le_refl _, Blk.new w1 #[] _, Nat.le_refl _, by unfold maxLen; omega, rfl, rfl⟩⟩
      have hq0 : Below w1.heap.size w1 (w1.alloc (.cells #[] 2)) := (Below.refl _ _).alloc (Nat.le_refl _) _
      generalize w1.alloc (.cells #[] 2) = v0 at *
      have k0 := keepc c0 hg hq0
      refine wp_loop_rounds 5 ?_
      rw [rounds_succ]
      have z0 := hq0.size
      go_wp2_with (first | (go_at_call 26; refine (KA.out _).mono ?_; rintro e w' ⟨rfl, rfl⟩) | (at_builtin; refine wpList_append1 rfl _ _ 48 rfl w1.heap.size 2 i0 (.int .i64 0) 8 Tryd.underlying48 hi hz0 hz1 hz2 rfl _ _ _ rfl hown0 (.int .i64 na) rfl rfl (by unfold maxLen; omega) (by omega) z0 ?_; intro g1 cap1 v1 hown1 hb1 _; have hq1 := hq0.trans hb1; clear hb1; have k1 := keepc c1 hg hq1))
      clear k0 z0
      rw [rounds_succ]
      have z1 := hq1.size
      go_wp2_with (first | (go_at_call 26; refine (KB.out _).mono ?_; rintro e w' ⟨rfl, rfl⟩) | (at_builtin; refine wpList_append1 rfl _ _ 48 rfl w1.heap.size 2 i0 (.int .i64 0) 8 Tryd.underlying48 hi hz0 hz1 hz2 rfl _ _ _ rfl hown1 (.int .i64 nb) rfl rfl (by unfold maxLen; omega) (by omega) z1 ?_; intro g2 cap2 v2 hown2 hb2 _; have hq2 := hq1.trans hb2; clear hb2; have k2 := keepc c2 hg hq2))
      clear k1 z1
      rw [rounds_succ]
      have z2 := hq2.size
      go_wp2_with (first | (go_at_call 26; refine (KC.out _).mono ?_; rintro e w' ⟨rfl, rfl⟩) | (at_builtin; refine wpList_append1 rfl _ _ 48 rfl w1.heap.size 2 i0 (.int .i64 0) 8 Tryd.underlying48 hi hz0 hz1 hz2 rfl _ _ _ rfl hown2 (.int .i64 nc) rfl rfl (by unfold maxLen; omega) (by omega) z2 ?_; intro g3 cap3 v3 hown3 hb3 _; have hq3 := hq2.trans hb3; clear hb3; have k3 := keepc c3 hg hq3))
      clear k2 z2
      rw [rounds_succ]
      have z3 := hq3.size
      go_wp2_with (first | (go_at_call 26; refine (KD.out _).mono ?_; rintro e w' ⟨rfl, rfl⟩) | (at_builtin; refine wpList_append1 rfl _ _ 48 rfl w1.heap.size 2 i0 (.int .i64 0) 8 Tryd.underlying48 hi hz0 hz1 hz2 rfl _ _ _ rfl hown3 (.int .i64 nd) rfl rfl (by unfold maxLen; omega) (by omega) z3 ?_; intro g4 cap4 v4 hown4 hb4 _; have hq4 := hq3.trans hb4; clear hb4))
      clear k3 z3
      rw [rounds_succ]
      have p0 : v4.cell? ⟨g4, 0, none⟩ = some (.int .i64 na) := by rw [hown4.cellAt 0 (by simp)]; rfl
      have p1 : v4.cell? ⟨g4, 1, none⟩ = some (.int .i64 nb) := by rw [hown4.cellAt 1 (by simp)]; rfl
      have p2 : v4.cell? ⟨g4, 2, none⟩ = some (.int .i64 nc) := by rw [hown4.cellAt 2 (by simp)]; rfl
      have p3 : v4.cell? ⟨g4, 3, none⟩ = some (.int .i64 nd) := by rw [hown4.cellAt 3 (by simp)]; rfl
      have hl4 : g4 < v4.heap.size := World.block_lt_of_cell? v4 _ p0
      have n0 := World.new_ne v4 _ p0
      have n1 := World.new_ne v4 _ p1
      have n2 := World.new_ne v4 _ p2
      have n3 := World.new_ne v4 _ p3
      clear hown0 hown1 hown2 hown3 hown4 KA KB KC KD
      go_wp2_with fail
      go_region_held3 (fun w' => w'.cell? ⟨g4, 0, none⟩ = some (.int .i64 na) ∧ w'.cell? ⟨g4, 1, none⟩ = some (.int .i64 nb) ∧ w'.cell? ⟨g4, 2, none⟩ = some (.int .i64 nc) ∧ w'.cell? ⟨g4, 3, none⟩ = some (.int .i64 nd))
        (first | exact ⟨p0, p1, p2, p3⟩ | go_keep) (fail)
      have B1 : Blk (v4.alloc (.cells #[.int .i64 na, .int .i64 nb, .int .i64 nc, .int .i64 nd] 25)).drew v4.heap.size #[.int .i64 na, .int .i64 nb, .int .i64 nc, .int .i64 nd] 25 := (Blk.new v4 _ _).drew
      replace B0 : Blk (v4.alloc (.cells #[.int .i64 na, .int .i64 nb, .int .i64 nc, .int .i64 nd] 25)).drew w.heap.size #[.int .i64 0, .int .i64 0, .int .i64 0, .int .i64 0] 25 := ((B0.below hq4).alloc _).drew
      replace hb : Below w.heap.size w (v4.alloc (.cells #[.int .i64 na, .int .i64 nb, .int .i64 nc, .int .i64 nd] 25)).drew := ((chain hb hq4).alloc (chain hb hq4).size _).drew
      clear hq0 hq1 hq2 hq3 hq4 p0 p1 p2 p3 n0 n1 n2 n3 hl4 c0 c1 c2 c3 hg
      go_wp2_with fail
      refine (HT.out _).mono ?_
      rintro e w5 ⟨rfl, hb5⟩
      replace B0 := B0.below hb5
      replace B1 := B1.below hb5
      replace hb := chain hb hb5
      clear hb5
      obtain ⟨y0, y1, y2, y3, yf, yl⟩ := B0.four
      obtain ⟨x0, x1, x2, x3, xf, xl⟩ := B1.four
      go_wp2_with fail
      refine bodyPost_ret (v := .tuple #[.agg #[.int .i64 0, .int .i64 0, .int .i64 0, .int .i64 0], .bool false]) (by simp [results, Tryd.results15, go_sem, y0, y1, y2, y3]) rfl ?_
      exact ⟨rfl, (((hb.setCell (Nat.le_refl _) _).setCell (Nat.le_refl _) _).setCell (Nat.le_refl _) _).setCell (Nat.le_refl _) _⟩
  · have hr : rvS t.data.toList = none := by
      unfold rvS
      simp only [hW]
      rw [if_neg (fun z => h4 z.1)]
    have hne : W ≠ [] := hW ▸ splitL_ne 47 t.data.toList
    have hpos : 0 < W.length := List.length_pos_iff.2 hne
    rw [hr]
    clear hr hW hlen hne
    have e1 : ((W.length : Int) != 4) = true := by rw [bne_iff_ne]; omega
    have e2 : ((W.length : Int) == 4) = false := by rw [beq_eq_false_iff_ne]; omega
    show Calls Tryd.prog 15 #[.string t] w fun e w' => e = .returned (.tuple #[.agg #[.int .i64 0, .int .i64 0, .int .i64 0, .int .i64 0], .bool false]) ∧ Below w.heap.size w w'
    go_enter Tryd.func15, Tryd.ntmps15
    go_wp2_with fail
    refine (HC.out _).mono ?_
    rintro e w1 ⟨v, rfl, hown, hb1⟩
    obtain ⟨g, cap, rfl⟩ := Joins.ownsRow_form hown hpos
    have B0 := (Blk.new w _ _).below hb1
    have hb := from_alloc hb1
    clear hown hb1 HC
    obtain ⟨y0, y1, y2, y3, yf, yl⟩ := B0.four
    go_wp2_with fail
    refine bodyPost_ret (v := .tuple #[.agg #[.int .i64 0, .int .i64 0, .int .i64 0, .int .i64 0], .bool false]) (by simp [results, Tryd.results15, go_sem, y0, y1, y2, y3]) rfl ?_
    exact ⟨rfl, (((hb.setCell (Nat.le_refl _) _).setCell (Nat.le_refl _) _).setCell (Nat.le_refl _) _).setCell (Nat.le_refl _) _⟩
end Go.Proofs.YtlbmknmihofloaaDoor
