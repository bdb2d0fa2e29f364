/- Contracts of chapter 10: the program's reading of a position. -/
import Derived.Test.YtjbcbcoaoplllaaDoor10k
import Derived.Test.YtjbcbcoaoplllaaDoorSpl
namespace Go.Proofs.YtjbcbcoaoplllaaDoor
open Go.ChangeShapes Go.WideShapes Go.ChangeAt Go.RowKit
set_option linter.unusedVariables false
set_option linter.unusedSimpArgs false

/-- A variable of the library that holds a number, or an error. -/
def MaxCell (w : World) : Prop := ∃ m, w.cell? ⟨5, 0, none⟩ = some (.int .i64 m)
def ErrC (w : World) (g : Nat) : Prop := ∃ ev, w.cell? ⟨g, 0, none⟩ = some ev ∧ (ev = .nilIface ∨ ∃ te pe, ev = .iface te pe)
theorem MaxCell.below {w w' : World} (h : MaxCell w) (hb : Below w.heap.size w w') : MaxCell w' := by
  obtain ⟨m, hm⟩ := h
  exact ⟨m, (hb.cell (p := ⟨_, 0, none⟩) (World.block_lt_of_cell? w _ hm)).trans hm⟩
theorem ErrC.below {w w' : World} {g : Nat} (h : ErrC w g) (hb : Below w.heap.size w w') : ErrC w' g := by
  obtain ⟨ev, h1, h2⟩ := h
  exact ⟨ev, (hb.cell (p := ⟨g, 0, none⟩) (World.block_lt_of_cell? w _ h1)).trans h1, h2⟩
theorem split_named (t : ByteArray) (ht : t.size ≤ 1048576) : ∃ PB : List ByteArray, PB.map (·.data.toList) = splitL 44 t.data.toList ∧
    ∀ w, MaxCell w → Calls Tryd.prog 39 #[.string t, .string ⟨#[44]⟩] w fun e w' => ∃ g cap, e = .returned (.slice (some ⟨g, 0, none⟩) PB.length cap) ∧ w.heap.size ≤ g ∧ VRow w' g (PB.map Value.string) 9 ∧ Below w.heap.size w w' := by
  have hcl : Lib.countB t ⟨#[44]⟩ = t.data.toList.count 44 := Lib.count_one 44 t.data.toList
  have hK := splitK_split 44 (Lib.countB t ⟨#[44]⟩) t.data.toList
  have hc := split_count 44 t.data.toList
  rw [show (44 : UInt8).toNat = 44 from rfl] at hK hc
  have hd : (Lib.splitB (⟨#[44]⟩ : ByteArray) 0 (Lib.countB t ⟨#[44]⟩) t).map (·.data.toList) = Lib.splitK [44] 0 (Lib.countB t ⟨#[44]⟩) t.data.toList := Lib.splitB_data (⟨#[44]⟩ : ByteArray) 0 (Lib.countB t ⟨#[44]⟩) t
  have hlen := Lib.splitB_all (⟨#[44]⟩ : ByteArray) (by decide) 0 (Lib.countB t ⟨#[44]⟩) t rfl
  refine ⟨Lib.splitB ⟨#[44]⟩ 0 (Lib.countB t ⟨#[44]⟩) t, by rw [hd, hK.2 (by omega)], ?_⟩
  rintro w ⟨m, hm⟩
  refine (Tryd.strings_Split t ⟨#[44]⟩ m w (by omega) hm (by decide)).mono ?_
  rintro e w' ⟨rfl, rfl⟩
  rw [hlen]
  exact ⟨_, _, rfl, Nat.le_refl _, ⟨_, Blk.new w _ _, by simp, by rw [List.toList_toArray]; exact List.take_of_length_le (Nat.le_refl _)⟩, (Below.refl _ _).alloc (Nat.le_refl _) _⟩
theorem parse_any (t : ByteArray) (w : World) (ht : t.size ≤ 1048576) (hE1 : ErrC w 0) (hE2 : ErrC w 1) :
    Calls Tryd.prog 40 #[.string t, .int .i64 10, .int .i64 64] w fun e w' => ∃ E, e = .returned (.tuple #[.int .i64 (prV t.data.toList), E]) ∧ Below w.heap.size w w' := by
  unfold prV
  cases h : Lib.parseIntB 64 t.data.toList with
  | ok n =>
    refine (Tryd.strconv_ParseInt_10_at64_ok t (by omega) n h w).mono ?_
    rintro e w' ⟨rfl, rfl | ⟨u, rfl⟩⟩
    · exact ⟨_, rfl, Below.refl _ _⟩
    · exact ⟨_, rfl, Lib.bytesWorld_below _ _ _⟩
  | «syntax» =>
    obtain ⟨ev, h1, h2⟩ := hE1
    refine (Tryd.strconv_ParseInt_10_at64_syntax t (by omega) h ev w h1 h2).mono ?_
    rintro e w' ⟨M, rfl, _, _, hb⟩
    exact ⟨_, rfl, hb⟩
  | range =>
    obtain ⟨ev, h1, h2⟩ := hE2
    refine (Tryd.strconv_ParseInt_10_at64_range t (by omega) h ev w h1 h2).mono ?_
    rintro e w' ⟨M, rfl, _, _, hb⟩
    exact ⟨_, rfl, hb⟩
/-- A list is the position whose text this is. -/
def accB (p c h s : Int) (t : List UInt8) (L : List Int) : Bool := okP p c h s L && decide (btL L = t)
theorem btL_parts {p c h s : Int} {L : List Int} (g : okP p c h s L = true) : splitL 44 (btL L) = elT L := by
  have hok := okP_parts g
  unfold btL
  refine split_join 44 (elT L) ?_ ?_
  · intro e
    have := elT_length L
    rw [e] at this
    simp at this
    omega
  · intro t ht hm
    obtain ⟨x, hx, rfl⟩ := List.mem_map.1 ht
    have h15 := hok.2.2.1 x hx
    rw [Lib.itoa, if_neg (by omega)] at hm
    have := dec_bytes (x.toNat + 1) x.toNat (by omega) 44 hm
    simp at this
theorem accB_map {p c h s : Int} {t : List UInt8} {L : List Int} (f : List UInt8 → Int) (hf : ∀ x : Int, 0 ≤ x → x < 100 → f (Lib.itoa x) = x) (g : accB p c h s t L = true) : (splitL 44 t).map f = L := by
  simp only [accB, Bool.and_eq_true, decide_eq_true_eq] at g
  have hok := okP_parts g.1
  rw [← g.2, btL_parts g.1]
  unfold elT
  rw [List.map_map]
  refine (List.map_congr_left (fun x hx => ?_)).trans (List.map_id L)
  have := hok.2.2.1 x hx
  exact hf x this.1 (by omega)
/-- Both readings accept the same texts, with the same position. -/
theorem accB_same (p c h s : Int) (t : List UInt8) : accB p c h s t ((splitL 44 t).map rdV) = accB p c h s t ((splitL 44 t).map prV) ∧
    (accB p c h s t ((splitL 44 t).map prV) = true → (splitL 44 t).map rdV = (splitL 44 t).map prV) := by
  have r : ∀ x : Int, 0 ≤ x → x < 100 → rdV (Lib.itoa x) = x := fun x h0 h1 => rdV_itoa (by omega) (by omega)
  have q : ∀ x : Int, 0 ≤ x → x < 100 → prV (Lib.itoa x) = x := fun x h0 h1 => prV_small h0 h1
  refine ⟨?_, fun g => accB_map rdV r g⟩
  cases g1 : accB p c h s t ((splitL 44 t).map rdV) with
  | true => rw [accB_map prV q g1, g1]
  | false =>
    cases g2 : accB p c h s t ((splitL 44 t).map prV) with
    | false => rfl
    | true => rw [accB_map rdV r g2, g2] at g1; cases g1
/-- What is read from a text, and whether. -/
def rbL (p c h s : Int) (t : List UInt8) : List Int := if accB p c h s t ((splitL 44 t).map prV) = true then (splitL 44 t).map prV else []
def rbB (p c h s : Int) (t : List UInt8) : Bool := accB p c h s t ((splitL 44 t).map prV)
/-- A list has been made and is handed back, beside a bool. -/
def SliceGotB (xs : List Int) (r : Bool) (w : World) (e : Ending) (w' : World) : Prop :=
  ∃ a k, e = .returned (.tuple #[.slice a xs.length k, .bool r]) ∧ OSl w.heap.size w'.heap.size w' a xs ∧ Below w.heap.size w w'
theorem fill_step (f : List UInt8 → Int) (P : List (List UInt8)) (n k : Nat) (y : List UInt8) (hy : P[k]? = some y) (hk : k < n) : ((P.take k).map f ++ List.replicate (n - k) (0 : Int)).set k (f y) = (P.take (k + 1)).map f ++ List.replicate (n - (k + 1)) 0 := by
  have hlk : k < P.length := (List.getElem?_eq_some_iff.1 hy).1
  have h1 : ((P.take k).map f).length = k := by simp; omega
  rw [List.set_append, if_neg (by omega), h1, Nat.sub_self, show n - k = (n - (k + 1)) + 1 by omega, List.replicate_succ, List.set_cons_zero, List.take_succ_eq_append_getElem hlk]
  have : P[k] = y := (List.getElem?_eq_some_iff.1 hy).2
  simp [this]
set_option maxHeartbeats 1000000 in
theorem isBearoffM_big (p c h s : Int) (a : Option Addr) (n cap : Nat) (xs : List Int) (w : World) (g : vB p c h s = true) (hn : xs.length = n) (hle : n ≤ 2000000) (hr : IRow w a xs) :
    Calls Tryd.prog 58 #[.agg #[.int .i64 p, .int .i64 c, .int .i64 h, .int .i64 s], .slice a n cap] w fun e w' => e = .returned (.bool (sideB (h - 1) c xs)) ∧ Below w.heap.size w w' := by
  have hK := fun W (r : IRow W a xs) => hasCheckers_any p c h s a n cap xs W g hn (by omega) r
  have HK := Lib.hid hK
  have hv := vB_iff.1 g
  have h0 : 1 ≤ h := by omega
  have h1 : h ≤ 24 := by omega
  clear hv g hK
  have B0 := Blk.new w #[.int .i64 p, .int .i64 c, .int .i64 h, .int .i64 s] 26
  have hb : Below w.heap.size w (w.alloc (.cells #[.int .i64 p, .int .i64 c, .int .i64 h, .int .i64 s] 26)) := (Below.refl _ _).alloc (Nat.le_refl _) _
  rw [sideB_chk, hn]
  obtain ⟨x0, x1, x2, x3, xf, xl⟩ := B0.four
  by_cases hlen : (n : Int) = h
  · have e0 : ((n : Int) == h) = true := by rw [beq_iff_eq]; exact hlen
    rw [decide_eq_true (by omega : (n : Int) = h - 1 + 1), Bool.true_and]
    have HL := Lib.hid hlen
    clear hlen
    go_enter Tryd.func58, Tryd.ntmps58
    go_wp2_with (go_at_call 81; refine (HK.out _ (hr.below hb)).mono ?_; rintro e w1 ⟨rfl, hb1⟩)
    go_ret
    exact ⟨rfl, chain hb hb1⟩
  · have e0 : ((n : Int) == h) = false := by rw [beq_eq_false_iff_ne]; exact hlen
    rw [decide_eq_false (by omega : ¬ (n : Int) = h - 1 + 1), Bool.false_and]
    have HL := Lib.hid hlen
    clear hlen
    go_enter Tryd.func58, Tryd.ntmps58
    go_wp2
    go_ret
    exact ⟨rfl, hb⟩
set_option maxHeartbeats 1000000 in
theorem isBearoff_big (p c h s : Int) (a : Option Addr) (n cap : Nat) (xs : List Int) (w : World) (hn : xs.length = n) (hle : n ≤ 2000000) (hr : IRow w a xs) :
    Calls Tryd.prog 35 #[.agg #[.int .i64 p, .int .i64 c, .int .i64 h, .int .i64 s], .slice a n cap] w fun e w' => e = .returned (.bool (okP p c h s xs)) ∧ Below w.heap.size w w' := by
  have BV := Blk.new w #[.int .i64 p, .int .i64 c, .int .i64 h, .int .i64 s] 26
  have hb : Below w.heap.size w (w.alloc (.cells #[.int .i64 p, .int .i64 c, .int .i64 h, .int .i64 s] 26)) := (Below.refl _ _).alloc (Nat.le_refl _) _
  obtain ⟨x0, x1, x2, x3, xf, xl⟩ := BV.four
  have hV := fun W => valid_any p c h s W
  by_cases g : vB p c h s = true
  rotate_left
  · have e0 : okP p c h s xs = false := by simp [okP, g]
    rw [e0]
    replace g : vB p c h s = false := by simpa using g
    rw [g] at hV
    have HV := Lib.hid hV
    clear hV e0
    go_enter Tryd.func35, Tryd.ntmps35
    go_wp2_with (go_at_call 57; refine (HV.out _).mono ?_; rintro e w1 ⟨rfl, hb1⟩; obtain ⟨x0, x1, x2, x3, xf, xl⟩ := (BV.below hb1).four)
    go_ret
    exact ⟨rfl, chain hb hb1⟩
  · have e0 : okP p c h s xs = sideB (h - 1) c xs := by simp [okP, g]
    rw [e0]
    have hS := fun W (r : IRow W a xs) => isBearoffM_big p c h s a n cap xs W g hn hle r
    rw [g] at hV
    have HV := Lib.hid hV
    have HS := Lib.hid hS
    clear hV hS e0 g
    go_enter Tryd.func35, Tryd.ntmps35
    go_wp2_with (first | (go_at_call 57; refine (HV.out _).mono ?_; rintro e w1 ⟨rfl, hb1⟩; obtain ⟨x0, x1, x2, x3, xf, xl⟩ := (BV.below hb1).four) | (go_at_call 58; refine (HS.out _ (hr.below (chain hb hb1))).mono ?_; rintro e w2 ⟨rfl, hb2⟩))
    go_ret
    exact ⟨rfl, chain (chain hb hb1) hb2⟩
set_option maxRecDepth 8000 in
set_option maxHeartbeats 2000000 in
theorem readBearoff_any (p c h s : Int) (t : ByteArray) (w : World) (ht : t.size ≤ 1048576) (hM : MaxCell w) (hE1 : ErrC w 0) (hE2 : ErrC w 1) :
    Calls Tryd.prog 15 #[.agg #[.int .i64 p, .int .i64 c, .int .i64 h, .int .i64 s], .string t] w (SliceGotB (rbL p c h s t.data.toList) (rbB p c h s t.data.toList) w) := by
  have BV := Blk.new w #[.int .i64 p, .int .i64 c, .int .i64 h, .int .i64 s] 26
  have hb : Below w.heap.size w (w.alloc (.cells #[.int .i64 p, .int .i64 c, .int .i64 h, .int .i64 s] 26)) := (Below.refl _ _).alloc (Nat.le_refl _) _
  obtain ⟨PB, hPB, hsp⟩ := split_named t ht
  have hlenS : (splitL 44 t.data.toList).length = PB.length := by rw [← hPB, List.length_map]
  have hle := split_length 44 t.data.toList
  have hne : 0 < PB.length := by rw [← hlenS]; exact List.length_pos_iff.2 (splitL_ne _ _)
  have hle2 : PB.length ≤ 1048577 := by rw [← hlenS]; have : t.data.toList.length = t.size := rfl; omega
  have hsz : ∀ (k : Nat) (x : ByteArray), PB[k]? = some x → x.size ≤ 1048576 := fun k x hk => by
    have hm : x.data.toList ∈ splitL 44 t.data.toList := by rw [← hPB]; exact List.mem_map_of_mem (List.mem_of_getElem? hk)
    have h1 := words_le 44 t.data.toList x.data.toList hm
    have h2 : x.data.toList.length = x.size := rfl
    have h3 : t.data.toList.length = t.size := rfl
    omega
  have hget : ∀ (k : Nat) (x : ByteArray), PB[k]? = some x → (splitL 44 t.data.toList)[k]? = some x.data.toList := fun k x hk => by rw [← hPB, List.getElem?_map, hk]; rfl
  have hA1 : accB p c h s t.data.toList ((splitL 44 t.data.toList).map prV) = true → rbL p c h s t.data.toList = (splitL 44 t.data.toList).map prV ∧ rbB p c h s t.data.toList = true := fun q => ⟨by rw [rbL, if_pos q], q⟩
  have hA0 : accB p c h s t.data.toList ((splitL 44 t.data.toList).map prV) = false → rbL p c h s t.data.toList = [] ∧ rbB p c h s t.data.toList = false := fun q => ⟨by rw [rbL, if_neg (by rw [q]; simp)], q⟩
  obtain ⟨RX, hRX⟩ : ∃ X, rbL p c h s t.data.toList = X := ⟨_, rfl⟩
  obtain ⟨RY, hRY⟩ : ∃ X, rbB p c h s t.data.toList = X := ⟨_, rfl⟩
  rw [hRX, hRY] at hA1 hA0 ⊢
  obtain ⟨P, hP⟩ : ∃ P, splitL 44 t.data.toList = P := ⟨_, rfl⟩
  rw [hP] at hget hlenS hA1 hA0
  have hmk := run_make_row' (P := Tryd.prog) 24 2 (.int .i64 0) 8 Tryd.underlying24 infoI64 rfl .i64 .i64 PB.length (by omega) (by omega)
  have hnI : (PB.length : Int) ≤ 1048577 := by omega
  have hPn : P.length = PB.length := hlenS
  have hfull : (P.take PB.length).map prV ++ List.replicate (PB.length - PB.length) (0 : Int) = P.map prV := by
    rw [Nat.sub_self, List.replicate_zero, List.append_nil, List.take_of_length_le (by omega)]
  have hL1 : (P.map prV).length = PB.length := by rw [List.length_map, hPn]
  have hib := fun W a k (r : IRow W a (P.map prV)) => isBearoff_big p c h s a PB.length k (P.map prV) W hL1 (by omega) r
  have hbt := fun (z : okP p c h s (P.map prV) = true) W a k (r : IRow W a (P.map prV)) => bearoffTextM_any a PB.length k (P.map prV) W hL1 (by omega) (by have := okP_parts z; omega) (okP_parts z).2.2.1 r
  have HSP := Lib.hid hsp
  have HSZ := Lib.hid hsz
  have HG := Lib.hid hget
  have HF := Lib.hid hfull
  have HIB := Lib.hid hib
  have HBT := Lib.hid hbt
  have HL1 := Lib.hid hL1
  have HPN := Lib.hid hPn
  have HA1 := Lib.hid hA1
  have HA0 := Lib.hid hA0
  have hM0 := hM
  have hE10 := hE1
  have hE20 := hE2
  replace hM := hM.below hb
  replace hE1 := hE1.below hb
  replace hE2 := hE2.below hb
  have hbl := BV.lt
  clear hsp hsz hget hfull hib hbt hL1 hPn hlenS hle hPB hP hA1 hA0 hRX hRY
  obtain ⟨x0, x1, x2, x3, xf, xl⟩ := BV.four
  go_enter Tryd.func15, Tryd.ntmps15
  go_wp2_with (first | (go_at_call 39; refine (HSP.out _ hM).mono ?_; rintro e w1 ⟨g1, cap1, rfl, hg1, RP, hb1⟩; clear x0 x1 x2 x3 xf xl; replace BV := BV.below hb1; replace hM := hM.below hb1; replace hE1 := hE1.below hb1; replace hE2 := hE2.below hb1; replace hb := chain hb hb1; clear hb1; obtain ⟨x0, x1, x2, x3, xf, xl⟩ := BV.four))
  clear x0 x1 x2 x3 xf xl hM hE1 hE2
  have R0 := made_row w1 PB.length
  have hal : Below w1.heap.size w1 (w1.alloc (.cells (madeCells #[.int .i64 0] PB.length) 2)) := (Below.refl _ _).alloc (Nat.le_refl _) _
  have hgR0 := RP.lt
  have hsw := hb.size
  have hlv := BV.lt
  replace BV := BV.below hal
  replace RP := RP.below hal
  replace hb := chain hb hal
  obtain ⟨gR, hgR⟩ : ∃ gR, w1.heap.size = gR := ⟨_, rfl⟩
  rw [hgR] at R0 hgR0 hsw hlv ⊢
  clear hal
  generalize (w1.alloc (.cells (madeCells #[.int .i64 0] PB.length) 2)) = v0 at *
  go_loopg [17] PB.length (fun m i wr => ∃ (W : World) (k : Nat), W = wr ∧ k ≤ PB.length ∧ m = PB.length - k ∧ i = .int .i64 k ∧ Row W gR ((P.take k).map prV ++ List.replicate (PB.length - k) 0) ∧ VRow W g1 (PB.map Value.string) 9 ∧ Blk W w.heap.size #[.int .i64 p, .int .i64 c, .int .i64 h, .int .i64 s] 26 ∧ Below w.heap.size w W)
  case atStart => exact ⟨_, 0, rfl, by omega, by omega, rfl, by simpa using R0, RP, BV, hb⟩
  case round =>
    clear R0 RP BV hb hmk
    obtain ⟨W, k, hW, hk, hm, rfl, R, RP, BV, hb⟩ := hrel
    subst hW
    have HM := Lib.hid hm
    by_cases hlt : k < PB.length
    · have hlt' : (k : Int) < (PB.length : Int) := by omega
      have hk0 : (0 : Int) ≤ (k : Int) := by omega
      obtain ⟨x, hx⟩ : ∃ x, PB[k]? = some x := ⟨_, List.getElem?_eq_getElem hlt⟩
      have hxc := VRow.cell RP k (.string x) (by rw [List.getElem?_map, hx]; rfl)
      have hg := HG.out k x hx
      have hst := fill_step prV P PB.length k _ hg hlt
      have hpa := fun W h1 h2 => parse_any x W (HSZ.out k x hx) h1 h2
      obtain ⟨v, hv⟩ : ∃ v, prV x.data.toList = v := ⟨_, rfl⟩
      rw [hv] at hst hpa
      have hrl : k < ((P.take k).map prV ++ List.replicate (PB.length - k) (0 : Int)).length := by have := HPN.out; simp; omega
      have HST := Lib.hid hst
      have HPA := Lib.hid hpa
      have HRL := Lib.hid hrl
      clear hst hpa hg hv hrl hm hx
      go_wp2_with (first | (go_at_call 40; refine (HPA.out _ (hE10.below hb) (hE20.below hb)).mono ?_; clear HPA; rintro e wq ⟨E, rfl, hbq⟩; replace R := R.below hbq; replace RP := RP.below hbq; replace BV := BV.below hbq; replace hb := chain hb hbq; have hcl := R.cell k HRL.out; have hfr := R.free k; clear hbq))
      go_roundg (PB.length - (k + 1))
      case measure => have := HM.out; omega
      case rel =>
        have R2 := R.set k v
        rw [HST.out] at R2
        exact ⟨_, k + 1, rfl, by omega, rfl, by go_num, R2, RP.other (by omega), BV.other (by omega), hb.setCell (p := ⟨gR, k, none⟩) (by show w.heap.size ≤ gR; omega) _⟩
    · obtain rfl : k = PB.length := by omega
      rw [HF.out] at R
      have hlt' : ¬ (PB.length : Int) < (PB.length : Int) := by omega
      obtain ⟨L1, hL⟩ : ∃ L, P.map prV = L := ⟨_, rfl⟩
      rw [hL] at R HIB HBT HL1 HA1 HA0
      obtain ⟨x0, x1, x2, x3, xf, xl⟩ := BV.four
      have hib := fun W a k (r : IRow W a L1) => HIB.out W a k r
      have hbw := hb
      cases z : okP p c h s L1 with
      | false =>
        have hacc : accB p c h s t.data.toList L1 = false := by simp [accB, z]
        obtain ⟨f1, f2⟩ := HA0.out hacc
        subst f1 f2
        simp only [z] at hib
        have HI2 := Lib.hid hib
        clear HA1 HA0 hib z hacc hL RP hm HM hlt
        go_wp2_with (first | (go_at_call 35; refine (HI2.out _ _ _ R.irow).mono ?_; rintro e wq ⟨rfl, hbq⟩; clear x0 x1 x2 x3 xf xl; replace BV := BV.below hbq; replace R := R.below hbq; replace hb := chain hb hbq; clear hbq; obtain ⟨x0, x1, x2, x3, xf, xl⟩ := BV.four))
        go_ret2
        exact ⟨none, 0, rfl, .inl ⟨rfl, rfl⟩, hb⟩
      | true =>
        have hbt := HBT.out z
        simp only [z] at hib
        have HI2 := Lib.hid hib
        obtain ⟨X, hX⟩ : ∃ X : ByteArray, ⟨(btL L1).toArray⟩ = X := ⟨_, rfl⟩
        rw [hX] at hbt
        have HT2 := Lib.hid hbt
        have hXl : X.data.toList = btL L1 := by rw [← hX]
        by_cases hq : btL L1 = t.data.toList
        · have hacc : accB p c h s t.data.toList L1 = true := by simp [accB, z, hq]
          obtain ⟨f1, f2⟩ := HA1.out hacc
          subst f1 f2
          have hXt : X = t := by
            apply ByteArray.ext
            apply Array.toList_inj.1
            rw [hXl, hq]
          subst hXt
          clear HA1 HA0 hib hbt z hacc hL RP hm HM hlt hX hq hXl
          go_wp2_with (first | (go_at_call 35; refine (HI2.out _ _ _ R.irow).mono ?_; rintro e wq ⟨rfl, hbq⟩; clear x0 x1 x2 x3 xf xl; replace BV := BV.below hbq; replace R := R.below hbq; replace hb := chain hb hbq; clear hbq; obtain ⟨x0, x1, x2, x3, xf, xl⟩ := BV.four) | (go_at_call 36; refine (HT2.out _ _ _ R.irow).mono ?_; rintro e wq ⟨rfl, hbq⟩; clear x0 x1 x2 x3 xf xl; replace BV := BV.below hbq; replace R := R.below hbq; replace hb := chain hb hbq; clear hbq; obtain ⟨x0, x1, x2, x3, xf, xl⟩ := BV.four))
          go_ret2
          exact ⟨_, PB.length, by rw [HL1.out]; rfl, .inr ⟨gR, rfl, by omega, R.lt, R⟩, hb⟩
        · have hacc : accB p c h s t.data.toList L1 = false := by simp [accB, hq]
          obtain ⟨f1, f2⟩ := HA0.out hacc
          subst f1 f2
          have hne : (X.toList == t.toList) = false := by
            rw [beq_eq_false_iff_ne, ByteArray.toList_eq, ByteArray.toList_eq, hXl]
            exact hq
          have hne3 : ¬ X = t := by
            rintro rfl
            exact hq hXl.symm
          clear HA1 HA0 hib hbt z hacc hL RP hm HM hlt hX hq hXl
          go_wp2_with (first | (go_at_call 35; refine (HI2.out _ _ _ R.irow).mono ?_; rintro e wq ⟨rfl, hbq⟩; clear x0 x1 x2 x3 xf xl; replace BV := BV.below hbq; replace R := R.below hbq; replace hb := chain hb hbq; clear hbq; obtain ⟨x0, x1, x2, x3, xf, xl⟩ := BV.four) | (go_at_call 36; refine (HT2.out _ _ _ R.irow).mono ?_; rintro e wq ⟨rfl, hbq⟩; clear x0 x1 x2 x3 xf xl; replace BV := BV.below hbq; replace R := R.below hbq; replace hb := chain hb hbq; clear hbq; obtain ⟨x0, x1, x2, x3, xf, xl⟩ := BV.four))
          go_ret2
          exact ⟨none, 0, rfl, .inl ⟨rfl, rfl⟩, hb⟩
end Go.Proofs.YtjbcbcoaoplllaaDoor
