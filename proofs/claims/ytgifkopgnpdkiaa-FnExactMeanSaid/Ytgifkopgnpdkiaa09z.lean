/- Contract of the program's mean of exact numbers. -/
import Derived.Test.Ytgifkopgnpdkiaa09k
import Derived.Test.Ytgifkopgnpdkiaa09m
import Derived.Test.YtgifkopgnpdkiaaM09c
import Derived.Test.Ytgifkopgnpdkiaa07a
import Derived.Deep.CutRange
namespace Go.Proofs.Ytgifkopgnpdkiaa
open Go.ChangeShapes Go.WideShapes Go.ChangeAt Go.RowKit
set_option linter.unusedVariables false
set_option linter.unusedSimpArgs false

theorem VRow.far2 {w : World} {g B : Nat} {vs : List Value} {t : TypeId} (h : VRow w g vs t) (hne : g ≠ B) (x y : Value) : VRow ((w.setCell ⟨B, 0, none⟩ x).setCell ⟨B, 1, none⟩ y) g vs t :=
  (h.other (g := B) (o := 0) (v := x) hne).other (g := B) (o := 1) (v := y) hne
theorem VRow.alloc {w : World} {g : Nat} {vs : List Value} {t : TypeId} (h : VRow w g vs t) (o : Obj) : VRow (w.alloc o) g vs t := h.below ((Below.refl _ _).alloc (Nat.le_refl _) o)
theorem drop_at {α : Type} {l : List α} {j : Nat} {z : α} (h : l[j]? = some z) : l.drop j = z :: l.drop (j + 1) := by
  obtain ⟨hl, e⟩ := List.getElem?_eq_some_iff.1 h
  rw [List.drop_eq_getElem_cons hl, e]
/-- A slice of rolls. -/
def RIn (w : World) (a : Option Addr) (l : List Rl) : Prop := (a = none ∧ l = []) ∨ ∃ g, a = some ⟨g, 0, none⟩ ∧ RRow w g l
theorem RIn.below {w w' : World} {a : Option Addr} {l : List Rl} (h : RIn w a l) (hb : Below w.heap.size w w') : RIn w' a l := by
  rcases h with h | ⟨g, e, r⟩
  · exact .inl h
  · exact .inr ⟨g, e, r.below hb⟩
theorem RIn.row {w : World} {a : Option Addr} {l : List Rl} (h : RIn w a l) {k : Nat} (hk : k < l.length) : ∃ g, a = some ⟨g, 0, none⟩ ∧ RRow w g l := by
  rcases h with ⟨_, rfl⟩ | ⟨g, e, r⟩
  · simp at hk
  · exact ⟨g, e, r⟩
theorem ORl.rin {lo hi : Nat} {w : World} {a : Option Addr} {l : List Rl} (h : ORl lo hi w a l) : RIn w a l := by
  rcases h with h | ⟨g, e, _, _, r⟩
  · exact .inl h
  · exact .inr ⟨g, e, r⟩
/-- The weight of a roll; the sum of weighted values; the mean. -/
def wgt (r : Rl) : Int := if r.1 = r.2 then 1 else 2
def mnSum (S : Nat) : List (Rl × Rl) → Int → Nat → Option (Int × Int)
  | [], a, d => some (a, (d : Int))
  | q :: l, a, d => match rdX S (q.2.1 * wgt q.1) q.2.2.toNat with
    | none => none
    | some y => match adX S a d y.1 y.2.toNat with
      | none => none
      | some z => mnSum S l z.1 z.2.toNat
def mnX (S : Nat) (l : List (Rl × Rl)) : Option (Int × Int) := match mnSum S l 0 0 with
  | none => none
  | some a => rdX S a.1 (a.2.toNat + 1)
theorem wgt_in (r : Rl) : 1 ≤ wgt r ∧ wgt r ≤ 2 := by unfold wgt; split <;> omega
theorem mnSum_cons {S : Nat} {r x : Rl} {l : List (Rl × Rl)} {a : Int} {d : Nat} : mnSum S ((r, x) :: l) a d = match rdX S (x.1 * wgt r) x.2.toNat with
    | none => none
    | some y => match adX S a d y.1 y.2.toNat with
      | none => none
      | some z => mnSum S l z.1 z.2.toNat := rfl
theorem adX_valid {S i j : Nat} {a b n d : Int} (h : adX S a i b j = some (n, d)) : xvB S n d = true := by
  unfold adX at h
  split at h <;> split at h
  · cases h
  · exact xvB_of h
  · cases h
  · exact xvB_of h
set_option maxRecDepth 8000 in
set_option maxHeartbeats 1000000 in
theorem mean_any (b S : Nat) (hS : 1 ≤ S ∧ S ≤ 6) (ra va : Option Addr) (kr kv : Nat) (RL X : List Rl) (hlen : X.length = RL.length) (hX : ∀ x ∈ X, xvB S x.1 x.2 = true) (hR : RL.length ≤ 1048576) (w : World) (HS : ScM w b S (nn S)) (HR : RIn w ra RL) (HO : OX w va X) :
    Calls Try.prog 58 #[.map (some b), .slice ra RL.length kr, .slice va X.length kv] w fun e w' => e = .returned (xoV (xo3 (mnX S (RL.zip X)) 3)) ∧ Below w.heap.size w w' := by
  have hn := nn_range hS
  rw [hlen]
  obtain ⟨⟨v1, v2, v3⟩, hv0⟩ : ∃ r, xo3 (mnX S (RL.zip X)) 3 = r := ⟨_, rfl⟩
  rw [hv0]
  dsimp only [xoV]
  have HV0 := Lib.hid hv0
  have HL := Lib.hid hlen
  have lbw := HS.lt
  have HX := Lib.hid hX
  clear hv0 hlen hX
  obtain ⟨BO, BA, hb, hz⟩ := two_new w #[.int .i64 0, .int .i64 0] #[.int .i64 0, .int .i64 0] 29 29
  replace HS := HS.below hb
  obtain ⟨o0, o1, of_, ol⟩ := BO.two
  obtain ⟨a0, a1, af, al⟩ := BA.two
  go_enter Try.func58, Try.ntmps58
  go_wp2_with fail
  clear o0 o1 of_ ol a0 a1 af al
  go_loopg [15] RL.length (fun n i wr => ∃ (j : Nat) (an : Int) (D : Nat), j ≤ RL.length ∧ n = RL.length - j ∧ i = .int .i64 (j : Int) ∧ Hid (mnSum S ((RL.zip X).drop j) an D = mnSum S (RL.zip X) 0 0) ∧ (-1000000000000000000 ≤ an ∧ an ≤ 1000000000000000000) ∧ D < nn S ∧ ScM wr b S (nn S) ∧ Blk wr w.heap.size #[.int .i64 0, .int .i64 0] 29 ∧ Blk wr (w.heap.size + 1) #[.int .i64 an, .int .i64 (D : Int)] 29 ∧ Below w.heap.size w wr)
  case atStart => exact ⟨0, 0, 0, by omega, by omega, rfl, Lib.hid (by simp), by omega, by omega, HS, BO, BA, hb⟩
  case round =>
    clear HS BO BA hb
    obtain ⟨j, an, D, hj, hm, rfl, HJ, han, hD, HS, BO, BA, hb⟩ := hrel
    by_cases hlt : j < RL.length
    · have hlt' : (j : Int) < (RL.length : Int) := by omega
      have hk0 : (0 : Int) ≤ (j : Int) := by omega
      have hltX : j < X.length := by rw [HL.out]; exact hlt
      obtain ⟨gb, rfl, RYw⟩ := HR.row hlt
      obtain ⟨ga, rfl, RXw⟩ := HO.row hltX
      have lgb := VRow.lt RYw
      have lga := VRow.lt RXw
      have RY := VRow.below RYw hb
      have RX := VRow.below RXw hb
      clear RYw RXw
      obtain ⟨⟨rA, rB⟩, hr⟩ : ∃ s, RL[j]? = some s := ⟨_, List.getElem?_eq_getElem hlt⟩
      obtain ⟨⟨xn, xd⟩, hs⟩ : ∃ s, X[j]? = some s := ⟨_, List.getElem?_eq_getElem hltX⟩
      have hq := HX.out _ (List.mem_of_getElem? hs)
      dsimp only at hq
      obtain ⟨q1, q2, q3, q4⟩ := xvB_parts hq
      obtain ⟨E, rfl⟩ := Int.eq_ofNat_of_zero_le q1
      replace q2 : E < nn S := by omega
      have hzip : (RL.zip X)[j]? = some ((rA, rB), (xn, (E : Int))) := by rw [List.getElem?_zip_eq_some]; exact ⟨hr, hs⟩
      have hJ := HJ.out
      rw [drop_at hzip, mnSum_cons] at hJ
      dsimp only at hJ
      rw [Int.toNat_natCast] at hJ
      obtain ⟨y0, y1⟩ := RRow.two RY j _ hr
      dsimp only at y0 y1
      have HS1 := Lib.hid hs
      have hw := fun W => implWeight_any rA rB W
      obtain ⟨wt, hwt⟩ : ∃ z, wgt (rA, rB) = z := ⟨_, rfl⟩
      have hwt2 := wgt_in (rA, rB)
      rw [hwt] at hwt2 hJ
      rw [show (if rA = rB then (1 : Int) else 2) = wt from hwt] at hw
      have hsc := fun W (H : ScM W b S (nn S)) => scaled_any b S hS xn wt E ⟨q3, q4⟩ (by omega) (by omega) W H
      obtain ⟨o, ho⟩ : ∃ o, rdX S (xn * wt) E = o := ⟨_, rfl⟩
      rw [ho] at hsc hJ
      obtain ⟨⟨r1, r2, r3⟩, hv⟩ : ∃ r, xo3 o 3 = r := ⟨_, rfl⟩
      rw [hv] at hsc
      dsimp only [xoV] at hsc
      have HW := Lib.hid hw
      have HSC := Lib.hid hsc
      have HJ2 := Lib.hid hJ
      have HV := Lib.hid hv
      have HO2 := Lib.hid ho
      clear hw hsc hJ hv ho hwt hwt2 hzip hq q1 q2 q3 q4 hr hs HJ HR HO
      obtain ⟨o0, o1, of_, ol⟩ := BO.two
      obtain ⟨a0, a1, af, al⟩ := BA.two
      go_upto_region 5 with (fail)
      clear y0 y1
      clear o0 o1 of_ ol a0 a1 af al
      have BR := Blk.new wr #[.int .i64 rA, .int .i64 rB] 109
      have h0r : w.heap.size ≤ wr.heap.size := hb.size
      replace RX := VRow.alloc RX (.cells #[.int .i64 rA, .int .i64 rB] 109)
      replace RY := VRow.alloc RY (.cells #[.int .i64 rA, .int .i64 rB] 109)
      replace HS := HS.alloc (.cells #[.int .i64 rA, .int .i64 rB] 109)
      replace BO := BO.alloc (.cells #[.int .i64 rA, .int .i64 rB] 109)
      replace BA := BA.alloc (.cells #[.int .i64 rA, .int .i64 rB] 109)
      replace hb := chain_alloc hb (.cells #[.int .i64 rA, .int .i64 rB] 109)
      generalize wr.alloc (.cells #[.int .i64 rA, .int .i64 rB] 109) = v0 at *
      generalize wr.heap.size = gr at *
      go_cut [11, 12] from 16 to 46 (fun q11 q12 wc_ => ∃ g, q11 = .pointer (some ⟨g, 0, none⟩) ∧ q12 = .int .i64 r3 ∧ Blk wc_ g #[.int .i64 r1, .int .i64 r2] 29 ∧ ScM wc_ b S (nn S) ∧ XRow wc_ ga X ∧ RRow wc_ gb RL ∧ Blk wc_ w.heap.size #[.int .i64 0, .int .i64 0] 29 ∧ Blk wc_ (w.heap.size + 1) #[.int .i64 an, .int .i64 (D : Int)] 29 ∧ Below w.heap.size w wc_)
      case first =>
          refine wp_region_held_drew (S := fun w' => w'.cell? ⟨ga, j * 2, none⟩ = some (.int .i64 xn) ∧ w'.cell? ⟨ga, j * 2 + 1, none⟩ = some (.int .i64 (E : Int)) ∧ w'.cell? ⟨gr, 0, none⟩ = some (.int .i64 rA) ∧ w'.cell? ⟨gr, 1, none⟩ = some (.int .i64 rB)) (by kernel_rfl) ⟨(XRow.two RX.drew j _ HS1.out).1, (XRow.two RX.drew j _ HS1.out).2, BR.drew.two.1, BR.drew.two.2.1⟩ (fun hHeld => ?_)
          clear hHeld
          replace BR := BR.drew
          replace RX := RX.drew
          replace RY := RY.drew
          replace HS := HS.drew
          replace BO := BO.drew
          replace BA := BA.drew
          replace hb := hb.drew
          generalize v0.drew = vd at *
          have hHeld : vd.cell? ⟨ga, j * 2, none⟩ = some (.int .i64 xn) ∧ vd.cell? ⟨ga, j * 2 + 1, none⟩ = some (.int .i64 (E : Int)) ∧ vd.cell? ⟨gr, 0, none⟩ = some (.int .i64 rA) ∧ vd.cell? ⟨gr, 1, none⟩ = some (.int .i64 rB) := ⟨(XRow.two RX j _ HS1.out).1, (XRow.two RX j _ HS1.out).2, BR.two.1, BR.two.2.1⟩
          refine wpAnyH_take (i := 0) (oi := { dst := some 21, op := _, type := _, pos := _, after := _, guard := _ }) (v := ?_) rfl (by kernel_rfl) (by kernel_rfl) (by kernel_rfl) (fun _ _ _ h => h) (Or.inl ⟨by rfl, ?_⟩) (by assumption) ?_
          rotate_left
          · intro w hSw
            (try dsimp only at hSw)
            go_simp
            (try (with_reducible rfl))
          try simp only [Act.put, List.setIfInBounds_toArray, List.set_cons_zero, List.set_cons_succ]
          refine wpAnyH_take (i := 1) (oi := { dst := some 22, op := _, type := _, pos := _, after := _, guard := _ }) (v := ?_) rfl (by kernel_rfl) (by kernel_rfl) (by kernel_rfl) (fun _ _ _ h => h) (Or.inl ⟨by rfl, ?_⟩) (by assumption) ?_
          rotate_left
          · intro w hSw
            (try dsimp only at hSw)
            go_simp
            (try (with_reducible rfl))
          try simp only [Act.put, List.setIfInBounds_toArray, List.set_cons_zero, List.set_cons_succ]
          refine wpAnyH_take (i := 2) (oi := { dst := some 23, op := _, type := _, pos := _, after := _, guard := _ }) (v := ?_) rfl (by kernel_rfl) (by kernel_rfl) (by kernel_rfl) (fun _ _ _ h => h) (Or.inl ⟨by rfl, ?_⟩) (by assumption) ?_
          rotate_left
          · intro w hSw
            (try dsimp only at hSw)
            go_simp
            (try (with_reducible rfl))
          try simp only [Act.put, List.setIfInBounds_toArray, List.set_cons_zero, List.set_cons_succ]
          refine wpAnyH_take (i := 3) (oi := { dst := some 24, op := _, type := _, pos := _, after := _, guard := _ }) (v := ?_) rfl (by kernel_rfl) (by kernel_rfl) (by kernel_rfl) (fun _ _ _ h => h) (Or.inl ⟨by rfl, ?_⟩) (by assumption) ?_
          rotate_left
          · intro w hSw
            (try dsimp only at hSw)
            go_simp
            (try (with_reducible rfl))
          try simp only [Act.put, List.setIfInBounds_toArray, List.set_cons_zero, List.set_cons_succ]
          refine wpAnyH_take (i := 4) (oi := { dst := some 25, op := _, type := _, pos := _, after := _, guard := _ }) (v := ?_) rfl (by kernel_rfl) (by kernel_rfl) (by kernel_rfl) (fun _ _ _ h => h) (Or.inl ⟨by rfl, ?_⟩) (by assumption) ?_
          rotate_left
          · intro w hSw
            (try dsimp only at hSw)
            go_simp
            (try (with_reducible rfl))
          try simp only [Act.put, List.setIfInBounds_toArray, List.set_cons_zero, List.set_cons_succ]
          refine wpAnyH_take (i := 5) (oi := { dst := some 26, op := _, type := _, pos := _, after := _, guard := _ }) (v := ?_) rfl (by kernel_rfl) (by kernel_rfl) (by kernel_rfl) (fun _ _ _ h => h) (Or.inl ⟨by rfl, ?_⟩) (by assumption) ?_
          rotate_left
          · intro w hSw
            (try dsimp only at hSw)
            go_simp
            (try (with_reducible rfl))
          try simp only [Act.put, List.setIfInBounds_toArray, List.set_cons_zero, List.set_cons_succ]
          refine wpAnyH_ready (rs := [6, 11]) (by kernel_rfl) (by simp) ?_
          refine AllReadyH.cons (o := { dst := some 27, op := _, type := _, pos := _, after := _, guard := _ }) rfl (fun K hK => ?_) (AllReadyH.cons (o := { dst := some 11, op := _, type := _, pos := _, after := _, guard := _ }) rfl (fun K hK => ?_) AllReadyH.nil)
          · go_simp
            refine (HW.out _).mono ?_
            rintro e w6 ⟨rfl, hb6⟩
            replace BR := BR.below hb6
            replace RX := RX.below hb6
            replace RY := RY.below hb6
            replace HS := HS.below hb6
            replace BO := BO.below hb6
            replace BA := BA.below hb6
            replace hb := chain hb hb6
            clear hb6
            (try go_wp2_with fail)
            refine hK.out _ _ ⟨(XRow.two RX j _ HS1.out).1, (XRow.two RX j _ HS1.out).2, BR.two.1, BR.two.2.1⟩ (fun hHeld => ?_)
            clear hK K
            try simp only [Act.put, List.setIfInBounds_toArray, List.set_cons_zero, List.set_cons_succ]
            refine wpAnyH_ready (rs := [7, 11]) (by kernel_rfl) (by simp) ?_
            refine AllReadyH.cons (o := { dst := some 28, op := _, type := _, pos := _, after := _, guard := _ }) rfl (fun K hK => ?_) (AllReadyH.cons (o := { dst := some 11, op := _, type := _, pos := _, after := _, guard := _ }) rfl (fun K hK => ?_) AllReadyH.nil)
            · go_simp
              refine (HSC.out _ HS).mono ?_
              rintro e w7 ⟨rfl, hb7⟩
              replace BR := BR.below hb7
              replace RX := RX.below hb7
              replace RY := RY.below hb7
              replace HS := HS.below hb7
              replace BO := BO.below hb7
              replace BA := BA.below hb7
              replace hb := chain hb hb7
              clear hb7
              (try go_wp2_with fail)
              refine hK.out _ _ ⟨(XRow.two RX j _ HS1.out).1, (XRow.two RX j _ HS1.out).2, BR.two.1, BR.two.2.1⟩ (fun hHeld => ?_)
              clear hK K
              try simp only [Act.put, List.setIfInBounds_toArray, List.set_cons_zero, List.set_cons_succ]
              refine wpAnyH_take (i := 8) (oi := { dst := some 20, op := _, type := _, pos := _, after := _, guard := _ }) (v := ?_) rfl (by kernel_rfl) (by kernel_rfl) (by kernel_rfl) (fun _ _ _ h => h) (Or.inl ⟨by rfl, ?_⟩) (by assumption) ?_
              rotate_left
              · intro w hSw
                (try dsimp only at hSw)
                go_simp
                (try (with_reducible rfl))
              try simp only [Act.put, List.setIfInBounds_toArray, List.set_cons_zero, List.set_cons_succ]
              refine wpAnyH_take (i := 9) (oi := { dst := some 29, op := _, type := _, pos := _, after := _, guard := _ }) (v := ?_) rfl (by kernel_rfl) (by kernel_rfl) (by kernel_rfl) (fun _ _ _ h => h) (Or.inl ⟨by rfl, ?_⟩) (by assumption) ?_
              rotate_left
              · intro w hSw
                (try dsimp only at hSw)
                go_simp
                (try (with_reducible rfl))
              try simp only [Act.put, List.setIfInBounds_toArray, List.set_cons_zero, List.set_cons_succ]
              refine wpAnyH_take (i := 10) (oi := { dst := some 30, op := _, type := _, pos := _, after := _, guard := _ }) (v := ?_) rfl (by kernel_rfl) (by kernel_rfl) (by kernel_rfl) (fun _ _ _ h => h) (Or.inl ⟨by rfl, ?_⟩) (by assumption) ?_
              rotate_left
              · intro w hSw
                (try dsimp only at hSw)
                go_simp
                (try (with_reducible rfl))
              try simp only [Act.put, List.setIfInBounds_toArray, List.set_cons_zero, List.set_cons_succ]
              refine wpAnyH_ready (rs := [11]) (by kernel_rfl) (by simp) ?_
              refine AllReadyH.cons (o := { dst := some 11, op := _, type := _, pos := _, after := _, guard := _ }) rfl (fun K hK => ?_) AllReadyH.nil
              go_simp
              (try go_wp2_with fail)
              refine hK.out _ _ ⟨(XRow.two (RX.alloc (.cells #[.int .i64 0, .int .i64 0] 29)) j _ HS1.out).1, (XRow.two (RX.alloc (.cells #[.int .i64 0, .int .i64 0] 29)) j _ HS1.out).2, (BR.alloc (.cells #[.int .i64 0, .int .i64 0] 29)).two.1, (BR.alloc (.cells #[.int .i64 0, .int .i64 0] 29)).two.2.1⟩ (fun hHeld => ?_)
              clear hK K
              try simp only [Act.put, List.setIfInBounds_toArray, List.set_cons_zero, List.set_cons_succ]
              have B8 := Blk.new w7 #[.int .i64 0, .int .i64 0] 29
              have h8 : w.heap.size ≤ w7.heap.size := hb.size
              have l_BR := BR.lt
              have l_RX := RX.lt
              have l_RY := RY.lt
              have l_HS := HS.lt
              have l_BO := BO.lt
              have l_BA := BA.lt
              replace BR := BR.alloc (.cells #[.int .i64 0, .int .i64 0] 29)
              replace RX := RX.alloc (.cells #[.int .i64 0, .int .i64 0] 29)
              replace RY := RY.alloc (.cells #[.int .i64 0, .int .i64 0] 29)
              replace HS := HS.alloc (.cells #[.int .i64 0, .int .i64 0] 29)
              replace BO := BO.alloc (.cells #[.int .i64 0, .int .i64 0] 29)
              replace BA := BA.alloc (.cells #[.int .i64 0, .int .i64 0] 29)
              replace hb := chain_alloc hb (.cells #[.int .i64 0, .int .i64 0] 29)
              generalize w7.alloc (.cells #[.int .i64 0, .int .i64 0] 29) = wA at *
              generalize w7.heap.size = g8 at *
              refine wpAnyH_ready (rs := [12]) (by kernel_rfl) (by simp) ?_
              refine AllReadyH.cons (o := { dst := none, op := _, type := _, pos := _, after := _, guard := _ }) rfl (fun K hK => ?_) AllReadyH.nil
              clear hHeld
              obtain ⟨z0, z1, zf, zl⟩ := B8.two
              have SBR := BR.far2 (B := g8) (by omega) (.int .i64 r1) (.int .i64 r2)
              have SRX := RX.far2 (B := g8) (by omega) (.int .i64 r1) (.int .i64 r2)
              have SRY := RY.far2 (B := g8) (by omega) (.int .i64 r1) (.int .i64 r2)
              have SHS := HS.far2 (B := g8) (by omega) (.int .i64 r1) (.int .i64 r2)
              have SBO := BO.far2 (B := g8) (by omega) (.int .i64 r1) (.int .i64 r2)
              have SBA := BA.far2 (B := g8) (by omega) (.int .i64 r1) (.int .i64 r2)
              have Shb := belowFar2 hb (B := g8) (by omega) (.int .i64 r1) (.int .i64 r2)
              have SB8 := B8.set2 (.int .i64 r1) (.int .i64 r2)
              go_simp
              (try go_wp2_with fail)
              refine hK.out _ _ ⟨(XRow.two SRX j _ HS1.out).1, (XRow.two SRX j _ HS1.out).2, SBR.two.1, SBR.two.2.1⟩ (fun hHeld => ?_)
              clear hK K
              try simp only [Act.put, List.setIfInBounds_toArray, List.set_cons_zero, List.set_cons_succ]
              clear z0 z1 zf zl hb B8 BR RX RY HS BO BA
              generalize ((wA.setCell ⟨g8, 0, none⟩ (.int .i64 r1)).setCell ⟨g8, 1, none⟩ (.int .i64 r2)) = wS at *
              have BR := SBR
              have RX := SRX
              have RY := SRY
              have HS := SHS
              have BO := SBO
              have BA := SBA
              have hb := Shb
              have B8 := SB8
              clear SBR SRX SRY SHS SBO SBA Shb SB8
              refine wpAnyH_take (i := 13) (oi := { dst := some 12, op := _, type := _, pos := _, after := _, guard := _ }) (v := ?_) rfl (by kernel_rfl) (by kernel_rfl) (by kernel_rfl) (fun _ _ _ h => h) (Or.inl ⟨by rfl, ?_⟩) (by assumption) ?_
              rotate_left
              · intro w hSw
                (try dsimp only at hSw)
                go_simp
                (try (with_reducible rfl))
              try simp only [Act.put, List.setIfInBounds_toArray, List.set_cons_zero, List.set_cons_succ]
              refine wpAnyH_done (by kernel_rfl) ?_ _
              clear hHeld
              (try go_wp2_with fail)
              go_meet
              case rel => exact ⟨g8, rfl, rfl, B8, HS, RX, RY, BO, BA, hb⟩
            · go_simp
              (try go_wp2_with fail)
              refine hK.out _ _ ⟨(XRow.two (RX.alloc (.cells #[.int .i64 0, .int .i64 0] 29)) j _ HS1.out).1, (XRow.two (RX.alloc (.cells #[.int .i64 0, .int .i64 0] 29)) j _ HS1.out).2, (BR.alloc (.cells #[.int .i64 0, .int .i64 0] 29)).two.1, (BR.alloc (.cells #[.int .i64 0, .int .i64 0] 29)).two.2.1⟩ (fun hHeld => ?_)
              clear hK K
              try simp only [Act.put, List.setIfInBounds_toArray, List.set_cons_zero, List.set_cons_succ]
              have B8 := Blk.new w6 #[.int .i64 0, .int .i64 0] 29
              have h8 : w.heap.size ≤ w6.heap.size := hb.size
              have l_BR := BR.lt
              have l_RX := RX.lt
              have l_RY := RY.lt
              have l_HS := HS.lt
              have l_BO := BO.lt
              have l_BA := BA.lt
              replace BR := BR.alloc (.cells #[.int .i64 0, .int .i64 0] 29)
              replace RX := RX.alloc (.cells #[.int .i64 0, .int .i64 0] 29)
              replace RY := RY.alloc (.cells #[.int .i64 0, .int .i64 0] 29)
              replace HS := HS.alloc (.cells #[.int .i64 0, .int .i64 0] 29)
              replace BO := BO.alloc (.cells #[.int .i64 0, .int .i64 0] 29)
              replace BA := BA.alloc (.cells #[.int .i64 0, .int .i64 0] 29)
              replace hb := chain_alloc hb (.cells #[.int .i64 0, .int .i64 0] 29)
              generalize w6.alloc (.cells #[.int .i64 0, .int .i64 0] 29) = wA at *
              generalize w6.heap.size = g8 at *
              refine wpAnyH_ready (rs := [7]) (by kernel_rfl) (by simp) ?_
              refine AllReadyH.cons (o := { dst := some 28, op := _, type := _, pos := _, after := _, guard := _ }) rfl (fun K hK => ?_) AllReadyH.nil
              go_simp
              refine (HSC.out _ HS).mono ?_
              rintro e w7 ⟨rfl, hb7⟩
              replace BR := BR.below hb7
              replace RX := RX.below hb7
              replace RY := RY.below hb7
              replace HS := HS.below hb7
              replace BO := BO.below hb7
              replace BA := BA.below hb7
              replace B8 := B8.below hb7
              replace hb := chain hb hb7
              clear hb7
              (try go_wp2_with fail)
              refine hK.out _ _ ⟨(XRow.two RX j _ HS1.out).1, (XRow.two RX j _ HS1.out).2, BR.two.1, BR.two.2.1⟩ (fun hHeld => ?_)
              clear hK K
              try simp only [Act.put, List.setIfInBounds_toArray, List.set_cons_zero, List.set_cons_succ]
              refine wpAnyH_take (i := 8) (oi := { dst := some 20, op := _, type := _, pos := _, after := _, guard := _ }) (v := ?_) rfl (by kernel_rfl) (by kernel_rfl) (by kernel_rfl) (fun _ _ _ h => h) (Or.inl ⟨by rfl, ?_⟩) (by assumption) ?_
              rotate_left
              · intro w hSw
                (try dsimp only at hSw)
                go_simp
                (try (with_reducible rfl))
              try simp only [Act.put, List.setIfInBounds_toArray, List.set_cons_zero, List.set_cons_succ]
              refine wpAnyH_take (i := 9) (oi := { dst := some 29, op := _, type := _, pos := _, after := _, guard := _ }) (v := ?_) rfl (by kernel_rfl) (by kernel_rfl) (by kernel_rfl) (fun _ _ _ h => h) (Or.inl ⟨by rfl, ?_⟩) (by assumption) ?_
              rotate_left
              · intro w hSw
                (try dsimp only at hSw)
                go_simp
                (try (with_reducible rfl))
              try simp only [Act.put, List.setIfInBounds_toArray, List.set_cons_zero, List.set_cons_succ]
              refine wpAnyH_take (i := 10) (oi := { dst := some 30, op := _, type := _, pos := _, after := _, guard := _ }) (v := ?_) rfl (by kernel_rfl) (by kernel_rfl) (by kernel_rfl) (fun _ _ _ h => h) (Or.inl ⟨by rfl, ?_⟩) (by assumption) ?_
              rotate_left
              · intro w hSw
                (try dsimp only at hSw)
                go_simp
                (try (with_reducible rfl))
              try simp only [Act.put, List.setIfInBounds_toArray, List.set_cons_zero, List.set_cons_succ]
              refine wpAnyH_ready (rs := [12]) (by kernel_rfl) (by simp) ?_
              refine AllReadyH.cons (o := { dst := none, op := _, type := _, pos := _, after := _, guard := _ }) rfl (fun K hK => ?_) AllReadyH.nil
              clear hHeld
              obtain ⟨z0, z1, zf, zl⟩ := B8.two
              have SBR := BR.far2 (B := g8) (by omega) (.int .i64 r1) (.int .i64 r2)
              have SRX := RX.far2 (B := g8) (by omega) (.int .i64 r1) (.int .i64 r2)
              have SRY := RY.far2 (B := g8) (by omega) (.int .i64 r1) (.int .i64 r2)
              have SHS := HS.far2 (B := g8) (by omega) (.int .i64 r1) (.int .i64 r2)
              have SBO := BO.far2 (B := g8) (by omega) (.int .i64 r1) (.int .i64 r2)
              have SBA := BA.far2 (B := g8) (by omega) (.int .i64 r1) (.int .i64 r2)
              have Shb := belowFar2 hb (B := g8) (by omega) (.int .i64 r1) (.int .i64 r2)
              have SB8 := B8.set2 (.int .i64 r1) (.int .i64 r2)
              go_simp
              (try go_wp2_with fail)
              refine hK.out _ _ ⟨(XRow.two SRX j _ HS1.out).1, (XRow.two SRX j _ HS1.out).2, SBR.two.1, SBR.two.2.1⟩ (fun hHeld => ?_)
              clear hK K
              try simp only [Act.put, List.setIfInBounds_toArray, List.set_cons_zero, List.set_cons_succ]
              clear z0 z1 zf zl hb B8 BR RX RY HS BO BA
              generalize ((w7.setCell ⟨g8, 0, none⟩ (.int .i64 r1)).setCell ⟨g8, 1, none⟩ (.int .i64 r2)) = wS at *
              have BR := SBR
              have RX := SRX
              have RY := SRY
              have HS := SHS
              have BO := SBO
              have BA := SBA
              have hb := Shb
              have B8 := SB8
              clear SBR SRX SRY SHS SBO SBA Shb SB8
              refine wpAnyH_take (i := 13) (oi := { dst := some 12, op := _, type := _, pos := _, after := _, guard := _ }) (v := ?_) rfl (by kernel_rfl) (by kernel_rfl) (by kernel_rfl) (fun _ _ _ h => h) (Or.inl ⟨by rfl, ?_⟩) (by assumption) ?_
              rotate_left
              · intro w hSw
                (try dsimp only at hSw)
                go_simp
                (try (with_reducible rfl))
              try simp only [Act.put, List.setIfInBounds_toArray, List.set_cons_zero, List.set_cons_succ]
              refine wpAnyH_done (by kernel_rfl) ?_ _
              clear hHeld
              (try go_wp2_with fail)
              go_meet
              case rel => exact ⟨g8, rfl, rfl, B8, HS, RX, RY, BO, BA, hb⟩
          · go_simp
            (try go_wp2_with fail)
            refine hK.out _ _ ⟨(XRow.two (RX.alloc (.cells #[.int .i64 0, .int .i64 0] 29)) j _ HS1.out).1, (XRow.two (RX.alloc (.cells #[.int .i64 0, .int .i64 0] 29)) j _ HS1.out).2, (BR.alloc (.cells #[.int .i64 0, .int .i64 0] 29)).two.1, (BR.alloc (.cells #[.int .i64 0, .int .i64 0] 29)).two.2.1⟩ (fun hHeld => ?_)
            clear hK K
            try simp only [Act.put, List.setIfInBounds_toArray, List.set_cons_zero, List.set_cons_succ]
            have B8 := Blk.new vd #[.int .i64 0, .int .i64 0] 29
            have h8 : w.heap.size ≤ vd.heap.size := hb.size
            have l_BR := BR.lt
            have l_RX := RX.lt
            have l_RY := RY.lt
            have l_HS := HS.lt
            have l_BO := BO.lt
            have l_BA := BA.lt
            replace BR := BR.alloc (.cells #[.int .i64 0, .int .i64 0] 29)
            replace RX := RX.alloc (.cells #[.int .i64 0, .int .i64 0] 29)
            replace RY := RY.alloc (.cells #[.int .i64 0, .int .i64 0] 29)
            replace HS := HS.alloc (.cells #[.int .i64 0, .int .i64 0] 29)
            replace BO := BO.alloc (.cells #[.int .i64 0, .int .i64 0] 29)
            replace BA := BA.alloc (.cells #[.int .i64 0, .int .i64 0] 29)
            replace hb := chain_alloc hb (.cells #[.int .i64 0, .int .i64 0] 29)
            generalize vd.alloc (.cells #[.int .i64 0, .int .i64 0] 29) = wA at *
            generalize vd.heap.size = g8 at *
            refine wpAnyH_ready (rs := [6]) (by kernel_rfl) (by simp) ?_
            refine AllReadyH.cons (o := { dst := some 27, op := _, type := _, pos := _, after := _, guard := _ }) rfl (fun K hK => ?_) AllReadyH.nil
            go_simp
            refine (HW.out _).mono ?_
            rintro e w6 ⟨rfl, hb6⟩
            replace BR := BR.below hb6
            replace RX := RX.below hb6
            replace RY := RY.below hb6
            replace HS := HS.below hb6
            replace BO := BO.below hb6
            replace BA := BA.below hb6
            replace B8 := B8.below hb6
            replace hb := chain hb hb6
            clear hb6
            (try go_wp2_with fail)
            refine hK.out _ _ ⟨(XRow.two RX j _ HS1.out).1, (XRow.two RX j _ HS1.out).2, BR.two.1, BR.two.2.1⟩ (fun hHeld => ?_)
            clear hK K
            try simp only [Act.put, List.setIfInBounds_toArray, List.set_cons_zero, List.set_cons_succ]
            refine wpAnyH_ready (rs := [7]) (by kernel_rfl) (by simp) ?_
            refine AllReadyH.cons (o := { dst := some 28, op := _, type := _, pos := _, after := _, guard := _ }) rfl (fun K hK => ?_) AllReadyH.nil
            go_simp
            refine (HSC.out _ HS).mono ?_
            rintro e w7 ⟨rfl, hb7⟩
            replace BR := BR.below hb7
            replace RX := RX.below hb7
            replace RY := RY.below hb7
            replace HS := HS.below hb7
            replace BO := BO.below hb7
            replace BA := BA.below hb7
            replace B8 := B8.below hb7
            replace hb := chain hb hb7
            clear hb7
            (try go_wp2_with fail)
            refine hK.out _ _ ⟨(XRow.two RX j _ HS1.out).1, (XRow.two RX j _ HS1.out).2, BR.two.1, BR.two.2.1⟩ (fun hHeld => ?_)
            clear hK K
            try simp only [Act.put, List.setIfInBounds_toArray, List.set_cons_zero, List.set_cons_succ]
            refine wpAnyH_take (i := 8) (oi := { dst := some 20, op := _, type := _, pos := _, after := _, guard := _ }) (v := ?_) rfl (by kernel_rfl) (by kernel_rfl) (by kernel_rfl) (fun _ _ _ h => h) (Or.inl ⟨by rfl, ?_⟩) (by assumption) ?_
            rotate_left
            · intro w hSw
              (try dsimp only at hSw)
              go_simp
              (try (with_reducible rfl))
            try simp only [Act.put, List.setIfInBounds_toArray, List.set_cons_zero, List.set_cons_succ]
            refine wpAnyH_take (i := 9) (oi := { dst := some 29, op := _, type := _, pos := _, after := _, guard := _ }) (v := ?_) rfl (by kernel_rfl) (by kernel_rfl) (by kernel_rfl) (fun _ _ _ h => h) (Or.inl ⟨by rfl, ?_⟩) (by assumption) ?_
            rotate_left
            · intro w hSw
              (try dsimp only at hSw)
              go_simp
              (try (with_reducible rfl))
            try simp only [Act.put, List.setIfInBounds_toArray, List.set_cons_zero, List.set_cons_succ]
            refine wpAnyH_take (i := 10) (oi := { dst := some 30, op := _, type := _, pos := _, after := _, guard := _ }) (v := ?_) rfl (by kernel_rfl) (by kernel_rfl) (by kernel_rfl) (fun _ _ _ h => h) (Or.inl ⟨by rfl, ?_⟩) (by assumption) ?_
            rotate_left
            · intro w hSw
              (try dsimp only at hSw)
              go_simp
              (try (with_reducible rfl))
            try simp only [Act.put, List.setIfInBounds_toArray, List.set_cons_zero, List.set_cons_succ]
            refine wpAnyH_ready (rs := [12]) (by kernel_rfl) (by simp) ?_
            refine AllReadyH.cons (o := { dst := none, op := _, type := _, pos := _, after := _, guard := _ }) rfl (fun K hK => ?_) AllReadyH.nil
            clear hHeld
            obtain ⟨z0, z1, zf, zl⟩ := B8.two
            have SBR := BR.far2 (B := g8) (by omega) (.int .i64 r1) (.int .i64 r2)
            have SRX := RX.far2 (B := g8) (by omega) (.int .i64 r1) (.int .i64 r2)
            have SRY := RY.far2 (B := g8) (by omega) (.int .i64 r1) (.int .i64 r2)
            have SHS := HS.far2 (B := g8) (by omega) (.int .i64 r1) (.int .i64 r2)
            have SBO := BO.far2 (B := g8) (by omega) (.int .i64 r1) (.int .i64 r2)
            have SBA := BA.far2 (B := g8) (by omega) (.int .i64 r1) (.int .i64 r2)
            have Shb := belowFar2 hb (B := g8) (by omega) (.int .i64 r1) (.int .i64 r2)
            have SB8 := B8.set2 (.int .i64 r1) (.int .i64 r2)
            go_simp
            (try go_wp2_with fail)
            refine hK.out _ _ ⟨(XRow.two SRX j _ HS1.out).1, (XRow.two SRX j _ HS1.out).2, SBR.two.1, SBR.two.2.1⟩ (fun hHeld => ?_)
            clear hK K
            try simp only [Act.put, List.setIfInBounds_toArray, List.set_cons_zero, List.set_cons_succ]
            clear z0 z1 zf zl hb B8 BR RX RY HS BO BA
            generalize ((w7.setCell ⟨g8, 0, none⟩ (.int .i64 r1)).setCell ⟨g8, 1, none⟩ (.int .i64 r2)) = wS at *
            have BR := SBR
            have RX := SRX
            have RY := SRY
            have HS := SHS
            have BO := SBO
            have BA := SBA
            have hb := Shb
            have B8 := SB8
            clear SBR SRX SRY SHS SBO SBA Shb SB8
            refine wpAnyH_take (i := 13) (oi := { dst := some 12, op := _, type := _, pos := _, after := _, guard := _ }) (v := ?_) rfl (by kernel_rfl) (by kernel_rfl) (by kernel_rfl) (fun _ _ _ h => h) (Or.inl ⟨by rfl, ?_⟩) (by assumption) ?_
            rotate_left
            · intro w hSw
              (try dsimp only at hSw)
              go_simp
              (try (with_reducible rfl))
            try simp only [Act.put, List.setIfInBounds_toArray, List.set_cons_zero, List.set_cons_succ]
            refine wpAnyH_done (by kernel_rfl) ?_ _
            clear hHeld
            (try go_wp2_with fail)
            go_meet
            case rel => exact ⟨g8, rfl, rfl, B8, HS, RX, RY, BO, BA, hb⟩
      case rest =>
        clear HS RX RY BO BA hb BR HW HSC
        obtain ⟨g, rfl, rfl, B8, HS, RX, RY, BO, BA, hb⟩ := hcut
        have hv := HV.out
        have hJ := HJ2.out
        cases o with
        | none =>
          simp only [xo3, Prod.mk.injEq] at hv
          obtain ⟨rfl, rfl, rfl⟩ := hv
          have hz3 : (v1, v2, v3) = ((0 : Int), (0 : Int), (3 : Int)) := by rw [← HV0.out]; unfold mnX; rw [← hJ]; rfl
          simp only [Prod.mk.injEq] at hz3
          obtain ⟨rfl, rfl, rfl⟩ := hz3
          clear hJ
          obtain ⟨o0, o1, of_, ol⟩ := BO.two
          obtain ⟨a0, a1, af, al⟩ := BA.two
          obtain ⟨z0, z1, zf, zl⟩ := B8.two
          go_wp2_with fail
          have BRn := BO.set2 (.int .i64 0) (.int .i64 0)
          obtain ⟨u0, u1, uf, ul⟩ := BRn.two
          refine bodyPost_ret (v := .tuple #[.agg #[.int .i64 0, .int .i64 0], .int .i64 3]) (by simp [results, Try.results58, go_sem, u0, u1]) rfl ?_
          exact ⟨rfl, belowFar2 hb (by omega) _ _⟩
        | some y =>
          obtain ⟨yn, yd⟩ := y
          simp only [xo3, Prod.mk.injEq] at hv
          obtain ⟨rfl, rfl, rfl⟩ := hv
          obtain ⟨p1, p2, p3, p4⟩ := xvB_parts (xvB_of HO2.out)
          obtain ⟨F, rfl⟩ := Int.eq_ofNat_of_zero_le p1
          replace p2 : F < nn S := by omega
          dsimp only at hJ
          rw [Int.toNat_natCast] at hJ
          have hsu := fun W (H : ScM W b S (nn S)) => sum_any b S hS an yn D F han ⟨p3, p4⟩ hD p2 W H
          obtain ⟨o2, ho2⟩ : ∃ z, adX S an D yn F = z := ⟨_, rfl⟩
          rw [ho2] at hsu hJ
          cases o2 with
          | none =>
            have hz3 : (v1, v2, v3) = ((0 : Int), (0 : Int), (3 : Int)) := by rw [← HV0.out]; unfold mnX; rw [← hJ]; rfl
            simp only [Prod.mk.injEq] at hz3
            obtain ⟨rfl, rfl, rfl⟩ := hz3
            simp only [xo3, xoV] at hsu
            have HSU := Lib.hid hsu
            clear hJ hsu ho2
            obtain ⟨o0, o1, of_, ol⟩ := BO.two
            obtain ⟨a0, a1, af, al⟩ := BA.two
            obtain ⟨z0, z1, zf, zl⟩ := B8.two
            go_wp2_with (go_at_call 49; refine (HSU.out _ HS).mono ?_; clear HSU; rintro e w8 ⟨rfl, hb8⟩; replace BO := BO.below hb8; replace BA := BA.below hb8; replace B8 := B8.below hb8; replace HS := HS.below hb8; replace hb := chain hb hb8; clear hb8; obtain ⟨o0, o1, of_, ol⟩ := BO.two; obtain ⟨a0, a1, af, al⟩ := BA.two; obtain ⟨z0, z1, zf, zl⟩ := B8.two)
            have BRn := (BO.far2 (B := (w.heap.size + 1)) (by omega) (.int .i64 0) (.int .i64 0)).set2 (.int .i64 0) (.int .i64 0)
            obtain ⟨u0, u1, uf, ul⟩ := BRn.two
            refine bodyPost_ret (v := .tuple #[.agg #[.int .i64 0, .int .i64 0], .int .i64 3]) (by simp [results, Try.results58, go_sem, u0, u1]) rfl ?_
            exact ⟨rfl, belowFar2 (belowFar2 hb (by omega) _ _) (by omega) _ _⟩
          | some z =>
            obtain ⟨zn, zd⟩ := z
            obtain ⟨t1, t2, t3, t4⟩ := xvB_parts (adX_valid ho2)
            obtain ⟨G, rfl⟩ := Int.eq_ofNat_of_zero_le t1
            replace t2 : G < nn S := by omega
            dsimp only at hJ
            rw [Int.toNat_natCast] at hJ
            simp only [xo3, xoV] at hsu
            have HSU := Lib.hid hsu
            have HJ3 := Lib.hid hJ
            clear hJ hsu ho2
            obtain ⟨o0, o1, of_, ol⟩ := BO.two
            obtain ⟨a0, a1, af, al⟩ := BA.two
            obtain ⟨z0, z1, zf, zl⟩ := B8.two
            go_wp2_with (go_at_call 49; refine (HSU.out _ HS).mono ?_; clear HSU; rintro e w8 ⟨rfl, hb8⟩; replace BO := BO.below hb8; replace BA := BA.below hb8; replace B8 := B8.below hb8; replace HS := HS.below hb8; replace hb := chain hb hb8; clear hb8; obtain ⟨o0, o1, of_, ol⟩ := BO.two; obtain ⟨a0, a1, af, al⟩ := BA.two; obtain ⟨z0, z1, zf, zl⟩ := B8.two)
            go_roundg (RL.length - (j + 1))
            case measure => omega
            case rel => exact ⟨j + 1, zn, G, by omega, rfl, by go_num, HJ3, ⟨t3, t4⟩, t2, HS.far2 (by omega) _ _, BO.far2 (by omega) _ _, BA.set2 _ _, belowFar2 hb (by omega) _ _⟩
    · obtain rfl : j = RL.length := by omega
      have hJ := HJ.out
      rw [List.drop_eq_nil_of_le (by rw [List.length_zip, HL.out]; omega)] at hJ
      have hv : xo3 (rdX S an (D + 1)) 3 = (v1, v2, v3) := by
        rw [← HV0.out]
        unfold mnX
        rw [← hJ]
        rfl
      obtain ⟨K, hK⟩ : ∃ K : Nat, D + 1 = K := ⟨_, rfl⟩
      rw [hK] at hv
      have wz : IntKind.i64.wrap ((D : Int) + 1) = (K : Int) := by rw [IntWalk.i64_in _ (by omega)]; omega
      have hp := fun W => product_any an 1 (by omega) (by omega) W
      have hrd := fun W hh ll (H : ScM W b S (nn S)) (HW : WD hh ll (an.natAbs * (1 : Int).natAbs)) => product_reduced b S hS an 1 K (by omega) W hh ll H HW
      rw [Int.mul_one, hv] at hrd
      dsimp only [xoV] at hrd
      have HP := Lib.hid hp
      have HR2 := Lib.hid hrd
      clear hp hrd hv hJ hK HJ
      obtain ⟨o0, o1, of_, ol⟩ := BO.two
      obtain ⟨a0, a1, af, al⟩ := BA.two
      go_wp2_with fail
      clear o0 o1 of_ ol a0 a1 af al
      have hd_ : wr.drew.heap.size = wr.heap.size := rfl
      replace BA := BA.drew
      replace BO := BO.drew
      replace HS := HS.drew
      replace hb := hb.drew
      refine wp_region_held_drew (S := fun w' => w'.cell? ⟨(w.heap.size + 1), 0, none⟩ = some (.int .i64 an) ∧ w'.cell? ⟨(w.heap.size + 1), 1, none⟩ = some (.int .i64 (D : Int))) (by kernel_rfl) ⟨BA.two.1, BA.two.2.1⟩ (fun hHeld => ?_)
      clear hHeld
      generalize wr.drew = vd at *
      have hHeld : vd.cell? ⟨(w.heap.size + 1), 0, none⟩ = some (.int .i64 an) ∧ vd.cell? ⟨(w.heap.size + 1), 1, none⟩ = some (.int .i64 (D : Int)) := ⟨BA.two.1, BA.two.2.1⟩
      refine wpAnyH_take (i := 0) (oi := { dst := some 47, op := _, type := _, pos := _, after := _, guard := _ }) (v := ?_) rfl (by kernel_rfl) (by kernel_rfl) (by kernel_rfl) (fun _ _ _ h => h) (Or.inl ⟨by rfl, ?_⟩) (by assumption) ?_
      rotate_left
      · intro w hSw
        (try dsimp only at hSw)
        go_simp
        (try (with_reducible rfl))
      try simp only [Act.put, List.setIfInBounds_toArray, List.set_cons_zero, List.set_cons_succ]
      refine wpAnyH_take (i := 1) (oi := { dst := some 48, op := _, type := _, pos := _, after := _, guard := _ }) (v := ?_) rfl (by kernel_rfl) (by kernel_rfl) (by kernel_rfl) (fun _ _ _ h => h) (Or.inl ⟨by rfl, ?_⟩) (by assumption) ?_
      rotate_left
      · intro w hSw
        (try dsimp only at hSw)
        go_simp
        (try (with_reducible rfl))
      try simp only [Act.put, List.setIfInBounds_toArray, List.set_cons_zero, List.set_cons_succ]
      refine wpAnyH_take (i := 2) (oi := { dst := some 49, op := _, type := _, pos := _, after := _, guard := _ }) (v := ?_) rfl (by kernel_rfl) (by kernel_rfl) (by kernel_rfl) (fun _ _ _ h => h) (Or.inl ⟨by rfl, ?_⟩) (by assumption) ?_
      rotate_left
      · intro w hSw
        (try dsimp only at hSw)
        go_simp
        (try (with_reducible rfl))
      try simp only [Act.put, List.setIfInBounds_toArray, List.set_cons_zero, List.set_cons_succ]
      refine wpAnyH_take (i := 4) (oi := { dst := some 51, op := _, type := _, pos := _, after := _, guard := _ }) (v := ?_) rfl (by kernel_rfl) (by kernel_rfl) (by kernel_rfl) (fun _ _ _ h => h) (Or.inl ⟨by rfl, ?_⟩) (by assumption) ?_
      rotate_left
      · intro w hSw
        (try dsimp only at hSw)
        go_simp
        (try (with_reducible rfl))
      try simp only [Act.put, List.setIfInBounds_toArray, List.set_cons_zero, List.set_cons_succ]
      refine wpAnyH_take (i := 5) (oi := { dst := some 52, op := _, type := _, pos := _, after := _, guard := _ }) (v := ?_) rfl (by kernel_rfl) (by kernel_rfl) (by kernel_rfl) (fun _ _ _ h => h) (Or.inl ⟨by rfl, ?_⟩) (by assumption) ?_
      rotate_left
      · intro w hSw
        (try dsimp only at hSw)
        go_simp
        (try (with_reducible rfl))
      try simp only [Act.put, List.setIfInBounds_toArray, List.set_cons_zero, List.set_cons_succ]
      refine wpAnyH_take (i := 6) (oi := { dst := some 53, op := _, type := _, pos := _, after := _, guard := _ }) (v := ?_) rfl (by kernel_rfl) (by kernel_rfl) (by kernel_rfl) (fun _ _ _ h => h) (Or.inl ⟨by rfl, ?_⟩) (by assumption) ?_
      rotate_left
      · intro w hSw
        (try dsimp only at hSw)
        go_simp
        (try (with_reducible rfl))
      try simp only [Act.put, List.setIfInBounds_toArray, List.set_cons_zero, List.set_cons_succ]
      refine wpAnyH_ready (rs := [3]) (by kernel_rfl) (by simp) ?_
      refine AllReadyH.cons (o := { dst := some 50, op := _, type := _, pos := _, after := _, guard := _ }) rfl (fun K hK => ?_) AllReadyH.nil
      go_simp
      refine (HP.out _).mono ?_
      rintro e w4 ⟨hh, ll, rfl, HWD, hb4⟩
      replace BA := BA.below hb4
      replace BO := BO.below hb4
      replace HS := HS.below hb4
      replace hb := chain hb hb4
      clear hb4
      (try go_wp2_with fail)
      refine hK.out _ _ ⟨BA.two.1, BA.two.2.1⟩ (fun hHeld => ?_)
      clear hK K
      try simp only [Act.put, List.setIfInBounds_toArray, List.set_cons_zero, List.set_cons_succ]
      refine wpAnyH_ready (rs := [7]) (by kernel_rfl) (by simp) ?_
      refine AllReadyH.cons (o := { dst := some 54, op := _, type := _, pos := _, after := _, guard := _ }) rfl (fun K hK => ?_) AllReadyH.nil
      go_simp
      refine (HR2.out _ _ _ HS HWD).mono ?_
      rintro e w5 ⟨rfl, hb5⟩
      replace BA := BA.below hb5
      replace BO := BO.below hb5
      replace HS := HS.below hb5
      replace hb := chain hb hb5
      clear hb5
      (try go_wp2_with fail)
      refine hK.out _ _ ⟨BA.two.1, BA.two.2.1⟩ (fun hHeld => ?_)
      clear hK K
      try simp only [Act.put, List.setIfInBounds_toArray, List.set_cons_zero, List.set_cons_succ]
      refine wpAnyH_take (i := 8) (oi := { dst := some 55, op := _, type := _, pos := _, after := _, guard := _ }) (v := ?_) rfl (by kernel_rfl) (by kernel_rfl) (by kernel_rfl) (fun _ _ _ h => h) (Or.inl ⟨by rfl, ?_⟩) (by assumption) ?_
      rotate_left
      · intro w hSw
        (try dsimp only at hSw)
        go_simp
        (try (with_reducible rfl))
      try simp only [Act.put, List.setIfInBounds_toArray, List.set_cons_zero, List.set_cons_succ]
      refine wpAnyH_take (i := 9) (oi := { dst := some 56, op := _, type := _, pos := _, after := _, guard := _ }) (v := ?_) rfl (by kernel_rfl) (by kernel_rfl) (by kernel_rfl) (fun _ _ _ h => h) (Or.inl ⟨by rfl, ?_⟩) (by assumption) ?_
      rotate_left
      · intro w hSw
        (try dsimp only at hSw)
        go_simp
        (try (with_reducible rfl))
      try simp only [Act.put, List.setIfInBounds_toArray, List.set_cons_zero, List.set_cons_succ]
      refine wpAnyH_ready (rs := [10]) (by kernel_rfl) (by simp) ?_
      refine AllReadyH.cons (o := { dst := none, op := _, type := _, pos := _, after := _, guard := _ }) rfl (fun K hK => ?_) AllReadyH.nil
      obtain ⟨u0, u1, uf, ul⟩ := BO.two
      go_simp
      (try go_wp2_with fail)
      refine hK.out _ _ ⟨(BA.far2 (B := w.heap.size) (by omega) (.int .i64 v1) (.int .i64 v2)).two.1, (BA.far2 (B := w.heap.size) (by omega) (.int .i64 v1) (.int .i64 v2)).two.2.1⟩ (fun hHeld => ?_)
      clear hK K
      try simp only [Act.put, List.setIfInBounds_toArray, List.set_cons_zero, List.set_cons_succ]
      refine wpAnyH_take (i := 11) (oi := { dst := some 7, op := _, type := _, pos := _, after := _, guard := _ }) (v := ?_) rfl (by kernel_rfl) (by kernel_rfl) (by kernel_rfl) (fun _ _ _ h => h) (Or.inl ⟨by rfl, ?_⟩) (by assumption) ?_
      rotate_left
      · intro w hSw
        (try dsimp only at hSw)
        go_simp
        (try (with_reducible rfl))
      try simp only [Act.put, List.setIfInBounds_toArray, List.set_cons_zero, List.set_cons_succ]
      refine wpAnyH_done (by kernel_rfl) ?_ _
      clear hHeld
      have BRn := BO.set2 (.int .i64 v1) (.int .i64 v2)
      obtain ⟨u0, u1, uf, ul⟩ := BRn.two
      go_wp2_with fail
      refine bodyPost_ret (v := .tuple #[.agg #[.int .i64 v1, .int .i64 v2], .int .i64 v3]) (by simp [results, Try.results58, go_sem, u0, u1]) rfl ?_
      exact ⟨rfl, belowFar2 hb (by omega) _ _⟩
end Go.Proofs.Ytgifkopgnpdkiaa
