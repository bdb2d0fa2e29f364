/- The model's draws of a variant, a position and a roll out of a code, as a function of the code's bytes. -/
import Derived.Test.YtpalokkcmpjcmaaDrawD10
namespace Go.Proofs.Ytpalokkcmpjcmaa
open Go.ChangeShapes Go.WideShapes Go.ChangeAt Go.RowKit
set_option linter.unusedVariables false
set_option linter.unusedSimpArgs false
set_option maxRecDepth 4000

theorem ds_bnd (len : Nat) (bs : Nat → Int) (st : Nat × Int) : 0 ≤ (dvV len bs st).1.2.2.2 ∧ (dvV len bs st).1.2.2.2 ≤ 16 := by
  unfold dvV
  have h3 := nx_bnd len bs (nxV len bs (nxV len bs st 3).2 3).2 3
  have h5 := nx_bnd len bs (nxV len bs (nxV len bs (nxV len bs (nxV len bs st 3).2 3).2 3).2 24).2 2
  dsimp only
  split
  · dsimp only
    omega
  · split
    · dsimp only
      omega
    · split
      · dsimp only
        omega
      · dsimp only
        omega
theorem dbs_bnd (len : Nat) (bs : Nat → Int) (st : Nat × Int) : 0 ≤ (dbV len bs st).1.2.2.2 ∧ (dbV len bs st).1.2.2.2 ≤ 16 := by
  unfold dbV
  dsimp only
  split
  · exact ds_bnd _ _ _
  · have h3 := nx_bnd len bs (nxV len bs (nxV len bs (nxV len bs st 2).2 6).2 6).2 6
    dsimp only
    omega
def drV (len : Nat) (bs : Nat → Int) (s : Int) (st : Nat × Int) : (Int × Int) × (Nat × Int) :=
  let a1 := nxV len bs st (max 1 s)
  let a2 := nxV len bs a1.2 (1 + a1.1)
  let a3 := nxV len bs a2.2 24
  if a3.1 = 0 then ((1 + a2.1 - 1, 1 + a1.1), a3.2) else ((1 + a1.1, 1 + a2.1), a3.2)
theorem dr_bnd (len : Nat) (bs : Nat → Int) (s : Int) (st : Nat × Int) (hs : s ≤ 16) : (0 ≤ (drV len bs s st).1.1 ∧ (drV len bs s st).1.1 ≤ 16) ∧ (0 ≤ (drV len bs s st).1.2 ∧ (drV len bs s st).1.2 ≤ 16) := by
  have h1 := nx_bnd len bs st (max 1 s)
  have h2 := nx_bnd len bs (nxV len bs st (max 1 s)).2 (1 + (nxV len bs st (max 1 s)).1)
  have h3 : max 1 s ≤ 16 := by omega
  unfold drV
  dsimp only
  split
  · dsimp only
    omega
  · dsimp only
    omega
/-- A roll has been drawn. -/
def R10D (B g : Nat) (a : Option Addr) (len cap : Nat) (bs : Nat → Int) (q : (Int × Int) × (Nat × Int)) (w : World) (e : Ending) (w' : World) : Prop :=
  e = .returned (.agg #[.int .i64 q.1.1, .int .i64 q.1.2]) ∧ SrcD B w' g a len cap bs q.2 ∧ w.grownBy w' (some g)
theorem r10_mk {B g : Nat} {a : Option Addr} {len cap : Nat} {bs : Nat → Int} {q : (Int × Int) × (Nat × Int)} {w : World} {e : Ending} {w' : World} {x y : Int} {t : Nat × Int}
    (hq : q = ((x, y), t)) (he : e = .returned (.agg #[.int .i64 x, .int .i64 y])) (hs : SrcD B w' g a len cap bs t) (hg : w.grownBy w' (some g)) : R10D B g a len cap bs q w e w' := by
  subst hq
  exact ⟨he, hs, hg⟩
theorem Blk.put2 {w : World} {B : Nat} {a b : Value} {t : TypeId} (h : Blk w B #[a, b] t) (x y : Value) : Blk ((w.setCell ⟨B, 0, none⟩ x).setCell ⟨B, 1, none⟩ y) B #[x, y] t := by
  have q := (h.set (i := 0) x).set (i := 1) y
  simpa using q
set_option maxRecDepth 8000 in
set_option maxHeartbeats 2000000 in
theorem drawRollD_any (B g : Nat) (a : Option Addr) (len cap : Nat) (p c h s : Int) (hs0 : 0 ≤ s) (hs1 : s ≤ 16) (w : World) (bs : Nat → Int) (st : Nat × Int) (hS : SrcD B w g a len cap bs st) :
    Calls Try.prog 31 #[.pointer (some ⟨g, 0, none⟩), .agg #[.int .i64 p, .int .i64 c, .int .i64 h, .int .i64 s]] w (R10D B g a len cap bs (drV len bs s st) w) := by
  have hgl := hS.lt
  have hgB := hS.base
  obtain ⟨BV, BR, hb, hz⟩ := two_new w #[.int .i64 p, .int .i64 c, .int .i64 h, .int .i64 s] #[.int .i64 0, .int .i64 0] 25 28
  replace hS := (hS.alloc (.cells #[.int .i64 p, .int .i64 c, .int .i64 h, .int .i64 s] 25)).alloc (.cells #[.int .i64 0, .int .i64 0] 28)
  have hG : w.grownBy ((w.alloc (.cells #[.int .i64 p, .int .i64 c, .int .i64 h, .int .i64 s] 25)).alloc (.cells #[.int .i64 0, .int .i64 0] 28)) (some g) := grown_trans (World.grownBy_alloc w _ _) (World.grownBy_alloc _ _ _)
  clear hb
  obtain ⟨mx, hmx⟩ : ∃ mx, max 1 s = mx := ⟨_, rfl⟩
  have m0 : 1 ≤ mx := by omega
  have m1 : mx ≤ 16 := by omega
  obtain ⟨x0, x1, x2, x3, xf, xl⟩ := BV.four
  go_enter Try.func31, Try.ntmps31
  go_wp2_with fail
  have HMX := Lib.hid hmx
  clear x0 x1 x2 x3 xf xl hmx
  have hz0 : ((w.alloc (.cells #[.int .i64 p, .int .i64 c, .int .i64 h, .int .i64 s] 25)).alloc (.cells #[.int .i64 0, .int .i64 0] 28)).heap.size = w.heap.size + 1 + 1 := by rw [hz]
  clear hz
  generalize ((w.alloc (.cells #[.int .i64 p, .int .i64 c, .int .i64 h, .int .i64 s] 25)).alloc (.cells #[.int .i64 0, .int .i64 0] 28)) = v0 at *
  have HN1 := nextD_any B g a len cap bs st mx _ hS (by omega)
  have hnb1 := nx_bnd len bs st mx
  obtain ⟨⟨r1, t1⟩, q1⟩ : ∃ q, nxV len bs st mx = q := ⟨_, rfl⟩
  rw [q1] at HN1 hnb1
  refine HN1.mono ?_
  clear HN1
  rintro e w1 ⟨rfl, hS, hg1⟩
  obtain ⟨l1, u1⟩ := hnb1
  dsimp only at l1 u1 hS
  have hz1 := hg1.size
  have hsl1 := hS.lt
  replace BV := BV.grown hg1 (by omega)
  replace BR := BR.grown hg1 (by omega)
  replace hG := grown_trans hG hg1
  clear hg1
  have wA : IntKind.i64.wrap (1 + r1) = 1 + r1 := IntWalk.i64_in _ (by omega)
  go_wp2_with fail
  have HN2 := nextD_any B g a len cap bs t1 (1 + r1) _ hS (by omega)
  have hnb2 := nx_bnd len bs t1 (1 + r1)
  obtain ⟨⟨r2, t2⟩, q2⟩ : ∃ q, nxV len bs t1 (1 + r1) = q := ⟨_, rfl⟩
  rw [q2] at HN2 hnb2
  refine HN2.mono ?_
  clear HN2
  rintro e w2 ⟨rfl, hS, hg2⟩
  obtain ⟨l2, u2⟩ := hnb2
  dsimp only at l2 u2 hS
  have hz2 := hg2.size
  have hsl2 := hS.lt
  replace BV := BV.grown hg2 (by omega)
  replace BR := BR.grown hg2 (by omega)
  replace hG := grown_trans hG hg2
  clear hg2
  have wB : IntKind.i64.wrap (1 + r2) = 1 + r2 := IntWalk.i64_in _ (by omega)
  have wC : IntKind.i64.wrap (1 + r2 - 1) = 1 + r2 - 1 := IntWalk.i64_in _ (by omega)
  go_wp2_with fail
  have HN3 := nextD_any B g a len cap bs t2 24 _ hS (by omega)
  have hnb3 := nx_bnd len bs t2 24
  obtain ⟨⟨r3, t3⟩, q3⟩ : ∃ q, nxV len bs t2 24 = q := ⟨_, rfl⟩
  rw [q3] at HN3 hnb3
  refine HN3.mono ?_
  clear HN3
  rintro e w3 ⟨rfl, hS, hg3⟩
  obtain ⟨l3, u3⟩ := hnb3
  dsimp only at l3 u3 hS
  have hz3 := hg3.size
  have hsl3 := hS.lt
  replace BV := BV.grown hg3 (by omega)
  replace BR := BR.grown hg3 (by omega)
  replace hG := grown_trans hG hg3
  clear hg3
  obtain ⟨y0, y1, yf, yl⟩ := BR.two
  by_cases e0 : r3 = 0
  · have f0 : (r3 == 0) = true := by rw [beq_iff_eq]; exact e0
    have HQ := Lib.hid (show drV len bs s st = ((1 + r2 - 1, 1 + r1), t3) by simp [drV, HMX.out, q1, q2, q3, e0])
    clear e0 q1 q2 q3
    go_wp2_with fail
    have BRn := BR.put2 (.int .i64 (1 + r2 - 1)) (.int .i64 (1 + r1))
    obtain ⟨z0, z1, zf, zl⟩ := BRn.two
    refine bodyPost_ret (v := .agg #[.int .i64 (1 + r2 - 1), .int .i64 (1 + r1)]) (by simp [results, Try.results31, go_sem, z0, z1]) rfl ?_
    exact r10_mk HQ.out rfl ((hS.set (by omega) (by omega)).set (by omega) (by omega)) (grown_new (grown_new hG (by omega)) (by omega))
  · have f0 : (r3 == 0) = false := by rw [beq_eq_false_iff_ne]; exact e0
    have HQ := Lib.hid (show drV len bs s st = ((1 + r1, 1 + r2), t3) by simp [drV, HMX.out, q1, q2, q3, e0])
    clear e0 q1 q2 q3
    go_wp2_with fail
    have BRn := BR.put2 (.int .i64 (1 + r1)) (.int .i64 (1 + r2))
    obtain ⟨z0, z1, zf, zl⟩ := BRn.two
    refine bodyPost_ret (v := .agg #[.int .i64 (1 + r1), .int .i64 (1 + r2)]) (by simp [results, Try.results31, go_sem, z0, z1]) rfl ?_
    exact r10_mk HQ.out rfl ((hS.set (by omega) (by omega)).set (by omega) (by omega)) (grown_new (grown_new hG (by omega)) (by omega))
def dqV (len : Nat) (bs : Nat → Int) : (Int × Int × Int × Int) × List Int × (Int × Int) :=
  let v := dbV len bs (frS len bs)
  let l := dlV len bs v.1.2.1 v.1.2.2.1 v.2
  (v.1, l.1, (drV len bs v.1.2.2.2 l.2).1)
theorem dqV_facts (len : Nat) (bs : Nat → Int) : (0 < (dqV len bs).2.1.length ∧ (dqV len bs).2.1.length ≤ 25) ∧ (0 ≤ (dqV len bs).2.2.1 ∧ (dqV len bs).2.2.1 ≤ 16) ∧ (0 ≤ (dqV len bs).2.2.2 ∧ (dqV len bs).2.2.2 ≤ 16) :=
  ⟨dlV_length _ _ _ _ _ (db_bnd _ _ _).2.1, (dr_bnd _ _ _ _ (dbs_bnd _ _ _).2).1, (dr_bnd _ _ _ _ (dbs_bnd _ _ _).2).2⟩
/-- A slice of the call's own, as it came: in one block from base on. -/
def ORow (base : Nat) (w : World) (a : Option Addr) (xs : List Int) : Prop := OSl base w.heap.size w a xs
theorem ORow.setC {base g o : Nat} {w : World} {v : Value} {a : Option Addr} {xs : List Int} (h : ORow base w a xs) (hg : g < base) : ORow base (w.setCell ⟨g, o, none⟩ v) a xs := by
  rcases h with h | ⟨b, rfl, h1, h2, r⟩
  · exact .inl h
  · have r2 := r.other (g := g) (o := o) (v := v) (show b ≠ g by omega)
    exact .inr ⟨b, rfl, h1, r2.lt, r2⟩
theorem ORow.grown {base g : Nat} {w w' : World} {a : Option Addr} {xs : List Int} (h : ORow base w a xs) (hg : w.grownBy w' (some g)) (hh : g < base) : ORow base w' a xs := by
  rcases h with h | ⟨b, rfl, h1, h2, r⟩
  · exact .inl h
  · have r2 := r.grown hg (show b ≠ g by omega)
    exact .inr ⟨b, rfl, h1, r2.lt, r2⟩
theorem ORow.drew {base : Nat} {w : World} {a : Option Addr} {xs : List Int} (h : ORow base w a xs) : ORow base w.drew a xs := h
/-- A variant, a position and a roll have been drawn. -/
def BrD (q : (Int × Int × Int × Int) × List Int × (Int × Int)) (w : World) (e : Ending) (w' : World) : Prop :=
  ∃ (aL : Option Addr) (kL : Nat), e = .returned (.tuple #[.agg #[.int .i64 q.1.1, .int .i64 q.1.2.1, .int .i64 q.1.2.2.1, .int .i64 q.1.2.2.2], .slice aL q.2.1.length kL, .agg #[.int .i64 q.2.2.1, .int .i64 q.2.2.2]]) ∧ ORow (w.heap.size + 1 + 1) w' aL q.2.1 ∧ q.2.1.length ≤ kL ∧ Below w.heap.size w w'
theorem br_mk {q : (Int × Int × Int × Int) × List Int × (Int × Int)} {w : World} {e : Ending} {w' : World} {p c h s ra rb : Int} {xs : List Int} {aL : Option Addr} {kL : Nat} (hq : q = ((p, c, h, s), xs, (ra, rb)))
    (he : e = .returned (.tuple #[.agg #[.int .i64 p, .int .i64 c, .int .i64 h, .int .i64 s], .slice aL xs.length kL, .agg #[.int .i64 ra, .int .i64 rb]])) (ho : ORow (w.heap.size + 1 + 1) w' aL xs) (hk : xs.length ≤ kL) (hb : Below w.heap.size w w') : BrD q w e w' := by
  subst hq
  exact ⟨aL, kL, he, ho, hk, hb⟩
set_option maxRecDepth 8000 in
set_option maxHeartbeats 2000000 in
theorem drawResultsD_any (B : Nat) (a : Option Addr) (len cap : Nat) (w : World) (hB : B ≤ w.heap.size) (hlen : len ≤ 1048576) (bs : Nat → Int) (hcode : CodeIs B w a len bs) :
    Calls Try.prog 8 #[.slice a len cap] w (BrD (dqV len bs) w) := by
  obtain ⟨BZ, BY, hb, hz⟩ := two_new w #[.int .i64 0, .int .i64 0, .int .i64 0, .int .i64 0] #[.int .i64 0, .int .i64 0] 25 28
  have hl0 := BZ.lt
  have hc1 := hcode.below (hb.mono hB)
  go_enter Try.func8, Try.ntmps8
  go_wp2_with fail
  have hz0 : ((w.alloc (.cells #[.int .i64 0, .int .i64 0, .int .i64 0, .int .i64 0] 25)).alloc (.cells #[.int .i64 0, .int .i64 0] 28)).heap.size = w.heap.size + 1 + 1 := by rw [hz]
  clear hz
  generalize ((w.alloc (.cells #[.int .i64 0, .int .i64 0, .int .i64 0, .int .i64 0] 25)).alloc (.cells #[.int .i64 0, .int .i64 0] 28)) = v0 at *
  refine (fromD_any B a len cap bs _ (by omega) hlen hc1).mono ?_
  rintro e w1 ⟨g, rfl, hg, hS, hb1⟩
  replace BZ := BZ.below hb1
  replace BY := BY.below hb1
  replace hb := chain hb hb1
  have hs1 := hb1.size
  clear hb1 hc1 hcode
  go_wp2_with fail
  have HV := draw10BigD_any B g a len cap _ bs _ hS
  have hvb := db_bnd len bs (frS len bs)
  have hsb := dbs_bnd len bs (frS len bs)
  obtain ⟨⟨⟨p, c, h, s⟩, t2⟩, q2⟩ : ∃ q, dbV len bs (frS len bs) = q := ⟨_, rfl⟩
  rw [q2] at HV hvb hsb
  refine HV.mono ?_
  clear HV
  rintro e w2 ⟨rfl, hS, hG⟩
  dsimp only at hS hvb hsb
  obtain ⟨bc, bh⟩ := hvb
  replace BZ := BZ.grown hG (by omega)
  replace BY := BY.grown hG (by omega)
  replace hb := chain_grown hb hG (by omega)
  have hs2 := hG.size
  have hgl := hS.lt
  clear hG
  have BV := Blk.new w2 #[.int .i64 p, .int .i64 c, .int .i64 h, .int .i64 s] 25
  have hal : Below w2.heap.size w2 (w2.alloc (.cells #[.int .i64 p, .int .i64 c, .int .i64 h, .int .i64 s] 25)) := (Below.refl _ _).alloc (Nat.le_refl _) _
  replace BZ := BZ.below hal
  replace BY := BY.below hal
  replace hS := hS.below hal
  replace hb := chain hb hal
  have hs3 : w2.heap.size + 1 ≤ (w2.alloc (.cells #[.int .i64 p, .int .i64 c, .int .i64 h, .int .i64 s] 25)).heap.size := by simp
  clear hal
  obtain ⟨bv, hbv⟩ : ∃ bv, w2.heap.size = bv := ⟨_, rfl⟩
  obtain ⟨x0, x1, x2, x3, xf, xl⟩ := BV.four
  go_wp2_with fail
  rw [hbv] at BV hs2 hs3 hgl x0 x1 x2 x3 xf xl
  (try rw [hbv])
  generalize (w2.alloc (.cells #[.int .i64 p, .int .i64 c, .int .i64 h, .int .i64 s] 25)) = w3 at *
  clear hbv
  have HD := draw10D_any B g a len cap p c h s bc.1 bc.2 bh.1 _ bs t2 hS
  obtain ⟨⟨xs, t3⟩, q3⟩ : ∃ q, dlV len bs c h t2 = q := ⟨_, rfl⟩
  rw [q3] at HD
  go_wp2_with fail
  refine HD.mono ?_
  clear HD
  rintro e w4 ⟨aL, kL, rfl, hO, hS, hg4, hkL⟩
  dsimp only at hO hS hkL
  clear x0 x1 x2 x3 xf xl
  replace BV := BV.grown hg4 (by omega)
  replace BZ := BZ.grown hg4 (by omega)
  replace BY := BY.grown hg4 (by omega)
  replace hb := chain_grown hb hg4 (by omega)
  have hs4 := hg4.size
  have hOr : ORow w3.heap.size w4 aL xs := hO
  clear hg4 hO
  go_wp2_with fail
  have hdd : w4.heap.size ≤ w4.drew.heap.size := Nat.le_refl _
  replace BV := BV.drew
  replace BZ := BZ.drew
  replace BY := BY.drew
  replace hS := hS.drew
  replace hb := hb.drew
  replace hOr := hOr.drew
  refine wp_region_held_drew (S := fun w' => w'.cell? ⟨bv, 0, none⟩ = some (.int .i64 p) ∧ w'.cell? ⟨bv, 1, none⟩ = some (.int .i64 c) ∧ w'.cell? ⟨bv, 2, none⟩ = some (.int .i64 h) ∧ w'.cell? ⟨bv, 3, none⟩ = some (.int .i64 s)) (by kernel_rfl) ⟨BV.four.1, BV.four.2.1, BV.four.2.2.1, BV.four.2.2.2.1⟩ (fun hHeld => ?_)
  clear hHeld
  generalize w4.drew = vd at *
  have hHeld : vd.cell? ⟨bv, 0, none⟩ = some (.int .i64 p) ∧ vd.cell? ⟨bv, 1, none⟩ = some (.int .i64 c) ∧ vd.cell? ⟨bv, 2, none⟩ = some (.int .i64 h) ∧ vd.cell? ⟨bv, 3, none⟩ = some (.int .i64 s) := ⟨BV.four.1, BV.four.2.1, BV.four.2.2.1, BV.four.2.2.2.1⟩
  refine wpAnyH_take (i := 0) (oi := { dst := some 15, op := _, type := _, pos := _, after := _, guard := _ }) (v := ?_) rfl (by kernel_rfl) (by kernel_rfl) (by kernel_rfl) (fun _ _ _ h => h) (Or.inl ⟨by rfl, ?_⟩) (by assumption) ?_
  rotate_left
  · intro w hSw
    (try dsimp only at hSw)
    go_simp
    (try (with_reducible rfl))
  try simp only [Act.put, List.setIfInBounds_toArray, List.set_cons_zero, List.set_cons_succ]
  refine wpAnyH_take (i := 1) (oi := { dst := some 16, op := _, type := _, pos := _, after := _, guard := _ }) (v := ?_) rfl (by kernel_rfl) (by kernel_rfl) (by kernel_rfl) (fun _ _ _ h => h) (Or.inl ⟨by rfl, ?_⟩) (by assumption) ?_
  rotate_left
  · intro w hSw
    (try dsimp only at hSw)
    go_simp
    (try (with_reducible rfl))
  try simp only [Act.put, List.setIfInBounds_toArray, List.set_cons_zero, List.set_cons_succ]
  refine wpAnyH_take (i := 2) (oi := { dst := some 17, op := _, type := _, pos := _, after := _, guard := _ }) (v := ?_) rfl (by kernel_rfl) (by kernel_rfl) (by kernel_rfl) (fun _ _ _ h => h) (Or.inl ⟨by rfl, ?_⟩) (by assumption) ?_
  rotate_left
  · intro w hSw
    (try dsimp only at hSw)
    go_simp
    (try (with_reducible rfl))
  try simp only [Act.put, List.setIfInBounds_toArray, List.set_cons_zero, List.set_cons_succ]
  refine wpAnyH_take (i := 3) (oi := { dst := some 18, op := _, type := _, pos := _, after := _, guard := _ }) (v := ?_) rfl (by kernel_rfl) (by kernel_rfl) (by kernel_rfl) (fun _ _ _ h => h) (Or.inl ⟨by rfl, ?_⟩) (by assumption) ?_
  rotate_left
  · intro w hSw
    (try dsimp only at hSw)
    go_simp
    (try (with_reducible rfl))
  try simp only [Act.put, List.setIfInBounds_toArray, List.set_cons_zero, List.set_cons_succ]
  refine wpAnyH_ready (rs := [4]) (by kernel_rfl) (by simp) ?_
  refine AllReadyH.cons (o := { dst := some 19, op := _, type := _, pos := _, after := _, guard := _ }) rfl (fun K hK => ?_) AllReadyH.nil
  go_simp
  have HE := drawRollD_any B g a len cap p c h s hsb.1 hsb.2 vd bs t3 hS
  obtain ⟨⟨⟨ra, rb⟩, t4⟩, q4⟩ : ∃ q, drV len bs s t3 = q := ⟨_, rfl⟩
  rw [q4] at HE
  refine HE.mono ?_
  clear HE
  rintro e w5 ⟨rfl, hS, hg5⟩
  dsimp only at hS
  replace BV := BV.grown hg5 (by omega)
  replace BZ := BZ.grown hg5 (by omega)
  replace BY := BY.grown hg5 (by omega)
  replace hOr := hOr.grown hg5 (by omega)
  replace hb := chain_grown hb hg5 (by omega)
  have hsz5 := hg5.size
  clear hg5
  (try go_wp2_with fail)
  refine hK.out _ _ ⟨BV.four.1, BV.four.2.1, BV.four.2.2.1, BV.four.2.2.2.1⟩ (fun hHeld => ?_)
  clear hK K
  try simp only [Act.put, List.setIfInBounds_toArray, List.set_cons_zero, List.set_cons_succ]
  refine wpAnyH_ready (rs := [5]) (by kernel_rfl) (by simp) ?_
  refine AllReadyH.cons (o := { dst := none, op := _, type := _, pos := _, after := _, guard := _ }) rfl (fun K hK => ?_) AllReadyH.nil
  have z0 := BZ.four.1
  have z1 := BZ.four.2.1
  have z2 := BZ.four.2.2.1
  have z3 := BZ.four.2.2.2.1
  have zf := BZ.four.2.2.2.2.1
  have zl := BZ.four.2.2.2.2.2
  go_simp
  (try go_wp2_with fail)
  refine hK.out _ _ ⟨((((BV.other (by omega)).other (by omega)).other (by omega)).other (by omega)).four.1, ((((BV.other (by omega)).other (by omega)).other (by omega)).other (by omega)).four.2.1, ((((BV.other (by omega)).other (by omega)).other (by omega)).other (by omega)).four.2.2.1, ((((BV.other (by omega)).other (by omega)).other (by omega)).other (by omega)).four.2.2.2.1⟩ (fun hHeld => ?_)
  clear hK K
  try simp only [Act.put, List.setIfInBounds_toArray, List.set_cons_zero, List.set_cons_succ]
  refine wpAnyH_take (i := 6) (oi := { dst := some 3, op := _, type := _, pos := _, after := _, guard := _ }) (v := ?_) rfl (by kernel_rfl) (by kernel_rfl) (by kernel_rfl) (fun _ _ _ h => h) (Or.inl ⟨by rfl, ?_⟩) (by assumption) ?_
  rotate_left
  · intro w hSw
    (try dsimp only at hSw)
    go_simp
    (try (with_reducible rfl))
  try simp only [Act.put, List.setIfInBounds_toArray, List.set_cons_zero, List.set_cons_succ]
  refine wpAnyH_ready (rs := [7]) (by kernel_rfl) (by simp) ?_
  refine AllReadyH.cons (o := { dst := none, op := _, type := _, pos := _, after := _, guard := _ }) rfl (fun K hK => ?_) AllReadyH.nil
  have u0 := ((((BY.other (g := w.heap.size) (o := 0) (v := .int .i64 p) (by omega)).other (g := w.heap.size) (o := 1) (v := .int .i64 c) (by omega)).other (g := w.heap.size) (o := 2) (v := .int .i64 h) (by omega)).other (g := w.heap.size) (o := 3) (v := .int .i64 s) (by omega)).two.1
  have u1 := ((((BY.other (g := w.heap.size) (o := 0) (v := .int .i64 p) (by omega)).other (g := w.heap.size) (o := 1) (v := .int .i64 c) (by omega)).other (g := w.heap.size) (o := 2) (v := .int .i64 h) (by omega)).other (g := w.heap.size) (o := 3) (v := .int .i64 s) (by omega)).two.2.1
  have uf := ((((BY.other (g := w.heap.size) (o := 0) (v := .int .i64 p) (by omega)).other (g := w.heap.size) (o := 1) (v := .int .i64 c) (by omega)).other (g := w.heap.size) (o := 2) (v := .int .i64 h) (by omega)).other (g := w.heap.size) (o := 3) (v := .int .i64 s) (by omega)).two.2.2.1
  have ul := ((((BY.other (g := w.heap.size) (o := 0) (v := .int .i64 p) (by omega)).other (g := w.heap.size) (o := 1) (v := .int .i64 c) (by omega)).other (g := w.heap.size) (o := 2) (v := .int .i64 h) (by omega)).other (g := w.heap.size) (o := 3) (v := .int .i64 s) (by omega)).two.2.2.2
  go_simp
  (try go_wp2_with fail)
  refine hK.out _ _ ⟨((((((BV.other (by omega)).other (by omega)).other (by omega)).other (by omega)).other (by omega)).other (by omega)).four.1, ((((((BV.other (by omega)).other (by omega)).other (by omega)).other (by omega)).other (by omega)).other (by omega)).four.2.1, ((((((BV.other (by omega)).other (by omega)).other (by omega)).other (by omega)).other (by omega)).other (by omega)).four.2.2.1, ((((((BV.other (by omega)).other (by omega)).other (by omega)).other (by omega)).other (by omega)).other (by omega)).four.2.2.2.1⟩ (fun hHeld => ?_)
  clear hK K
  try simp only [Act.put, List.setIfInBounds_toArray, List.set_cons_zero, List.set_cons_succ]
  refine wpAnyH_done (by kernel_rfl) ?_ _
  go_wp2_with fail
  replace hOr : ORow (w.heap.size + 1 + 1) w5 aL xs := OSl.mono hOr (by omega) (Nat.le_refl _)
  have BZn := BZ.put4 (.int .i64 p) (.int .i64 c) (.int .i64 h) (.int .i64 s)
  have BYn := (((((BY.other (g := w.heap.size) (o := 0) (v := .int .i64 p) (by omega)).other (g := w.heap.size) (o := 1) (v := .int .i64 c) (by omega)).other (g := w.heap.size) (o := 2) (v := .int .i64 h) (by omega)).other (g := w.heap.size) (o := 3) (v := .int .i64 s) (by omega))).put2 (.int .i64 ra) (.int .i64 rb)
  have BZm := (BZn.other (g := w.heap.size + 1) (o := 0) (v := .int .i64 ra) (by omega)).other (g := w.heap.size + 1) (o := 1) (v := .int .i64 rb) (by omega)
  obtain ⟨s0, s1, s2, s3, sf, sl⟩ := BZm.four
  obtain ⟨y0, y1, yf, yl⟩ := BYn.two
  refine bodyPost_ret (v := .tuple #[.agg #[.int .i64 p, .int .i64 c, .int .i64 h, .int .i64 s], .slice aL xs.length kL, .agg #[.int .i64 ra, .int .i64 rb]]) (by simp [results, Try.results8, go_sem, s0, s1, s2, s3, y0, y1]) rfl ?_
  exact br_mk (by simp [dqV, q2, q3, q4]) rfl ((((((hOr.setC (by omega)).setC (by omega)).setC (by omega)).setC (by omega)).setC (by omega)).setC (by omega)) hkL ((((((hb.setCell (by simp) _).setCell (by simp) _).setCell (by simp) _).setCell (by simp) _).setCell (by simp) _).setCell (by simp) _)
set_option maxRecDepth 8000 in
set_option maxHeartbeats 2000000 in
theorem drawGreedyD_any (B : Nat) (a : Option Addr) (len cap : Nat) (w : World) (hB : B ≤ w.heap.size) (hlen : len ≤ 1048576) (bs : Nat → Int) (hcode : CodeIs B w a len bs) :
    Calls Try.prog 14 #[.slice a len cap] w (BrD (dqV len bs) w) := by
  obtain ⟨BZ, BY, hb, hz⟩ := two_new w #[.int .i64 0, .int .i64 0, .int .i64 0, .int .i64 0] #[.int .i64 0, .int .i64 0] 25 28
  have hl0 := BZ.lt
  have hc1 := hcode.below (hb.mono hB)
  go_enter Try.func14, Try.ntmps14
  go_wp2_with fail
  have hz0 : ((w.alloc (.cells #[.int .i64 0, .int .i64 0, .int .i64 0, .int .i64 0] 25)).alloc (.cells #[.int .i64 0, .int .i64 0] 28)).heap.size = w.heap.size + 1 + 1 := by rw [hz]
  clear hz
  generalize ((w.alloc (.cells #[.int .i64 0, .int .i64 0, .int .i64 0, .int .i64 0] 25)).alloc (.cells #[.int .i64 0, .int .i64 0] 28)) = v0 at *
  have HV := drawResultsD_any B a len cap v0 (by omega) hlen bs hc1
  obtain ⟨⟨⟨p, c, h, s⟩, xs, ⟨ra, rb⟩⟩, q2⟩ : ∃ q, dqV len bs = q := ⟨_, rfl⟩
  rw [q2] at HV
  refine HV.mono ?_
  clear HV
  rintro e w5 ⟨aL, kL, rfl, hOr, hkL, hb1⟩
  dsimp only at hOr hkL
  replace BZ := BZ.below hb1
  replace BY := BY.below hb1
  replace hb := chain hb hb1
  obtain ⟨z0, z1, z2, z3, zf, zl⟩ := BZ.four
  obtain ⟨u0, u1, uf, ul⟩ := BY.two
  go_wp2_with fail
  replace hOr : ORow (w.heap.size + 1 + 1) w5 aL xs := OSl.mono hOr (by omega) (Nat.le_refl _)
  have BZn := BZ.put4 (.int .i64 p) (.int .i64 c) (.int .i64 h) (.int .i64 s)
  have BYn := (((((BY.other (g := w.heap.size) (o := 0) (v := .int .i64 p) (by omega)).other (g := w.heap.size) (o := 1) (v := .int .i64 c) (by omega)).other (g := w.heap.size) (o := 2) (v := .int .i64 h) (by omega)).other (g := w.heap.size) (o := 3) (v := .int .i64 s) (by omega))).put2 (.int .i64 ra) (.int .i64 rb)
  have BZm := (BZn.other (g := w.heap.size + 1) (o := 0) (v := .int .i64 ra) (by omega)).other (g := w.heap.size + 1) (o := 1) (v := .int .i64 rb) (by omega)
  obtain ⟨s0, s1, s2, s3, sf, sl⟩ := BZm.four
  obtain ⟨y0, y1, yf, yl⟩ := BYn.two
  refine bodyPost_ret (v := .tuple #[.agg #[.int .i64 p, .int .i64 c, .int .i64 h, .int .i64 s], .slice aL xs.length kL, .agg #[.int .i64 ra, .int .i64 rb]]) (by simp [results, Try.results14, go_sem, s0, s1, s2, s3, y0, y1]) rfl ?_
  exact br_mk q2 rfl ((((((hOr.setC (by omega)).setC (by omega)).setC (by omega)).setC (by omega)).setC (by omega)).setC (by omega)) hkL ((((((hb.setCell (by simp) _).setCell (by simp) _).setCell (by simp) _).setCell (by simp) _).setCell (by simp) _).setCell (by simp) _)
end Go.Proofs.Ytpalokkcmpjcmaa
