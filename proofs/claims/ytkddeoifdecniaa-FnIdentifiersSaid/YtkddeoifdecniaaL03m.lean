/- Contracts of chapter 3: the board with an identifier, of the program. -/
import Derived.Test.YtkddeoifdecniaaL03k
import Derived.Test.YtkddeoifdecniaaL03l
import Derived.Laws.IdiomStrings
namespace Go.Proofs.Ytkddeoifdecniaa
open Go.ChangeShapes Go.WideShapes Go.ChangeAt Go.RowKit
set_option linter.unusedVariables false
set_option linter.unusedSimpArgs false

/-- The bytes of a text, as numbers. -/
def ubytes (t : ByteArray) : List Int := t.data.toList.map fun b => (b.toNat : Int)
/-- The bits of a text. -/
def tb (t : ByteArray) : List Int := sbits t.data.toList
def rbT (p : Int) (bs : List Int) : List UInt8 := idS (bitsL (cX p bs) ++ bitsL (cY p bs))
def rbB (p c h s : Int) (bs : List Int) : Bool := decide (2 * zOf p ≤ (cib 0 bs).length) && isB p c h s (cX p bs) (cY p bs)
def rbOk (p c h s : Int) (t : ByteArray) : Bool := rbB p c h s (tb t) && decide (rbT p (tb t) = t.data.toList)
def rbIn (t : ByteArray) : Bool := decide (t.size ≤ 14) && onlyL t.data.toList
def rbAll (p c h s : Int) (t : ByteArray) : Bool := vB p c h s && (rbIn t && rbOk p c h s t)
def rbE (p c h s : Int) (t : ByteArray) : Int := if vB p c h s = true then (if t.size ≤ 14 then (if onlyL t.data.toList = true then (if rbOk p c h s t = true then 0 else 4) else 6) else 3) else 1
def rbX (p c h s : Int) (t : ByteArray) : List Int := if rbAll p c h s t = true then cX p (tb t) else []
def rbY (p c h s : Int) (t : ByteArray) : List Int := if rbAll p c h s t = true then cY p (tb t) else []
theorem bytes_eq {l : List UInt8} {t : ByteArray} : (⟨l.toArray⟩ : ByteArray) = t ↔ l = t.data.toList := by
  obtain ⟨⟨d⟩⟩ := t
  simp
theorem rb_none {p c h s : Int} {t : ByteArray} (h0 : rbAll p c h s t = false) : rbX p c h s t = [] ∧ rbY p c h s t = [] := by
  constructor
  · rw [rbX, h0, if_neg (by simp)]
  · rw [rbY, h0, if_neg (by simp)]
theorem tb_length (t : ByteArray) : (tb t).length = 6 * t.size := by rw [tb, sbits_length]; simp
theorem ubytes_length (t : ByteArray) : (ubytes t).length = t.size := by simp [ubytes]
def fB (x : Int) : List Int := bits6 (idx x.toNat.toUInt8).toNat
theorem ubytes_bits (t : ByteArray) : ((ubytes t).map fB).flatten = tb t := by
  unfold ubytes tb sbits
  rw [List.map_map]
  congr 1
  refine List.map_congr_left fun b _ => ?_
  simp [fB]
theorem idx_nat {b : UInt8} (h : 0 ≤ idx b) : ∃ u : Nat, idx b = (u : Int) ∧ u < 64 := by
  rcases idx_spec b with ⟨h1, _⟩ | ⟨u, hu, h1, _⟩
  · omega
  · exact ⟨u, h1, hu⟩
theorem fB_any (t : ByteArray) (ho : onlyL t.data.toList = true) : ∀ x ∈ ubytes t, 0 < (fB x).length ∧ (fB x).length ≤ 1000 ∧ ∀ W : World, Calls Try.prog 80 #[.int .u8 x] W (RowGot (fB x) W) := by
  intro x hx
  unfold ubytes at hx
  obtain ⟨b, hb, rfl⟩ := List.mem_map.1 hx
  unfold onlyL at ho
  have h0 : 0 ≤ idx b := by simpa using List.all_eq_true.1 ho b hb
  obtain ⟨u, hu, h64⟩ := idx_nat h0
  have e : fB (b.toNat : Int) = bits6 u := by simp [fB, hu]
  rw [e]
  exact ⟨by simp [bits6_length], by simp [bits6_length], fun W => byteGroup_any b u W hu h64⟩
theorem conv_any (t : ByteArray) (W : World) : ∃ gc cc W', (convert 9 22 (.string t)).run Try.prog W = .ok (.slice (some ⟨gc, 0, none⟩) t.size cc) W' ∧ Below W.heap.size W W' ∧ URow W' (some ⟨gc, 0, none⟩) (ubytes t) := by
  refine ⟨_, _, _, run_bytes_of_string W 9 22 5 t Try.underlying9 Try.underlying22 Try.underlying5, ((Below.refl _ W).drew).alloc (Nat.le_refl _) _, fun i hi => ⟨_, _, rfl, ?_⟩⟩
  have hi2 : i < t.data.size := by simpa [ubytes] using hi
  rw [Nat.zero_add]
  refine (World.cell?_alloc_mark W.drew _ _ _ i).trans ?_
  rw [bytesRow_at t _ i hi2]
  simp [ubytes]
  rw [Array.getElem?_eq_getElem hi2]
  rfl
theorem isB_bits {p c h s : Int} {X Y : List Int} (h1 : isB p c h s X Y = true) : ∀ (b1 b2 : Option Addr) (k1 k2 : Nat) W, IRow W b1 X → IRow W b2 Y → Calls Try.prog 74 #[.agg #[.slice b1 X.length k1, .slice b2 Y.length k2]] W (SliceGot (bitsL X ++ bitsL Y) W) := by
  obtain ⟨⟨f1, f2, f3⟩, ⟨f4, f5, f6⟩, f7, f8⟩ := isB_fit h1
  exact fun b1 b2 k1 k2 W q1 q2 => bits_any b1 b2 X.length Y.length k1 k2 X Y W rfl rfl f1 f4 (by omega) (by omega) f3 f6 (by omega) (by omega) q1 q2
set_option maxRecDepth 8000 in
set_option maxHeartbeats 2000000 in
theorem readBoardId_any (p c h s : Int) (t : ByteArray) (w : World) :
    Calls Try.prog 36 #[.agg #[.int .i64 p, .int .i64 c, .int .i64 h, .int .i64 s], .string t] w (BoardGot2 (rbX p c h s t) (rbY p c h s t) (.int .i64 (rbE p c h s t)) w) := by
  have BV := Blk.new w #[.int .i64 p, .int .i64 c, .int .i64 h, .int .i64 s] 25
  have hb1 : Below w.heap.size w (w.alloc (.cells #[.int .i64 p, .int .i64 c, .int .i64 h, .int .i64 s] 25)) := (Below.refl _ _).alloc (Nat.le_refl _) _
  have BR := Blk.new (w.alloc (.cells #[.int .i64 p, .int .i64 c, .int .i64 h, .int .i64 s] 25)) #[.slice none 0 0, .slice none 0 0] 28
  have hz1 : (w.alloc (.cells #[.int .i64 p, .int .i64 c, .int .i64 h, .int .i64 s] 25)).heap.size = w.heap.size + 1 := by simp
  rw [hz1] at BR
  replace BV := BV.alloc (.cells #[.slice none 0 0, .slice none 0 0] 28)
  have hbw := hb1.alloc hb1.size (.cells #[.slice none 0 0, .slice none 0 0] 28)
  clear hz1 hb1
  have hV := fun W => valid_any p c h s W
  by_cases g : vB p c h s = true
  rotate_left
  · obtain ⟨eX, eY⟩ := rb_none (show rbAll p c h s t = false by simp [rbAll, g])
    rw [eX, eY, rbE, if_neg g]
    replace g : vB p c h s = false := by simpa using g
    rw [g] at hV
    have HV := Lib.hid hV
    clear hV eX eY
    go_enter Try.func36, Try.ntmps36
    obtain ⟨x0, x1, x2, x3, xf, xl⟩ := BV.four
    go_wp2_with fail
    have hvA : w.heap.size + 1 < ((w.alloc (.cells #[.int .i64 p, .int .i64 c, .int .i64 h, .int .i64 s] 25)).alloc (.cells #[.slice none 0 0, .slice none 0 0] 28)).heap.size := BR.lt
    generalize ((w.alloc (.cells #[.int .i64 p, .int .i64 c, .int .i64 h, .int .i64 s] 25)).alloc (.cells #[.slice none 0 0, .slice none 0 0] 28)) = vA at *
    clear x0 x1 x2 x3 xf xl
    refine (HV.out _).mono ?_
    rintro e w1 ⟨rfl, hb1⟩
    replace BV := BV.below hb1
    replace BR := BR.below hb1
    have hz_hb1 := hb1.size
    replace hbw := chain hbw hb1
    clear hb1
    obtain ⟨y0, y1, yf, yl⟩ := BR.two
    go_wp2_with fail
    have BRn := (BR.set (i := 0) (.slice none 0 0)).set (i := 1) (.slice none 0 0)
    obtain ⟨z0, z1, zf, zl⟩ := BRn.two
    refine bodyPost_ret (v := .tuple #[.agg #[.slice none 0 0, .slice none 0 0], .int .i64 1]) (by simp [results, Try.results36, go_sem, z0, z1]) rfl ?_
    exact ⟨none, none, 0, 0, rfl, .inl ⟨rfl, rfl, rfl, rfl⟩, below2 BR hbw (by omega)⟩
  rw [g] at hV
  have HV := Lib.hid hV
  have hv := vB_iff.1 g
  by_cases i14 : t.size ≤ 14
  rotate_left
  · obtain ⟨eX, eY⟩ := rb_none (show rbAll p c h s t = false by simp [rbAll, rbIn, i14])
    rw [eX, eY, rbE, if_pos g, if_neg i14]
    have h14b : decide ((14 : Int) < (t.size : Int)) = true := by rw [decide_eq_true_iff]; omega
    have h14c : decide (14 < t.size) = true := by rw [decide_eq_true_iff]; omega
    clear hV eX eY hv g
    go_enter Try.func36, Try.ntmps36
    obtain ⟨x0, x1, x2, x3, xf, xl⟩ := BV.four
    go_wp2_with fail
    have hvA : w.heap.size + 1 < ((w.alloc (.cells #[.int .i64 p, .int .i64 c, .int .i64 h, .int .i64 s] 25)).alloc (.cells #[.slice none 0 0, .slice none 0 0] 28)).heap.size := BR.lt
    generalize ((w.alloc (.cells #[.int .i64 p, .int .i64 c, .int .i64 h, .int .i64 s] 25)).alloc (.cells #[.slice none 0 0, .slice none 0 0] 28)) = vA at *
    clear x0 x1 x2 x3 xf xl
    refine (HV.out _).mono ?_
    rintro e w1 ⟨rfl, hb1⟩
    replace BV := BV.below hb1
    replace BR := BR.below hb1
    have hz_hb1 := hb1.size
    replace hbw := chain hbw hb1
    clear hb1
    obtain ⟨y0, y1, yf, yl⟩ := BR.two
    go_wp2_with fail
    have BRn := (BR.set (i := 0) (.slice none 0 0)).set (i := 1) (.slice none 0 0)
    obtain ⟨z0, z1, zf, zl⟩ := BRn.two
    refine bodyPost_ret (v := .tuple #[.agg #[.slice none 0 0, .slice none 0 0], .int .i64 3]) (by simp [results, Try.results36, go_sem, z0, z1]) rfl ?_
    exact ⟨none, none, 0, 0, rfl, .inl ⟨rfl, rfl, rfl, rfl⟩, below2 BR hbw (by omega)⟩
  have h14b : decide ((14 : Int) < (t.size : Int)) = false := by rw [decide_eq_false_iff_not]; omega
  have h14c : decide (14 < t.size) = false := by rw [decide_eq_false_iff_not]; omega
  have hH := fun W => hasOnlyIdBytes_any t W (by omega)
  by_cases o : onlyL t.data.toList = true
  rotate_left
  · obtain ⟨eX, eY⟩ := rb_none (show rbAll p c h s t = false by simp [rbAll, rbIn, o])
    rw [eX, eY, rbE, if_pos g, if_pos i14, if_neg o]
    replace o : onlyL t.data.toList = false := by simpa using o
    rw [o] at hH
    have HH := Lib.hid hH
    clear hV eX eY hv g hH o
    go_enter Try.func36, Try.ntmps36
    obtain ⟨x0, x1, x2, x3, xf, xl⟩ := BV.four
    go_wp2_with fail
    have hvA : w.heap.size + 1 < ((w.alloc (.cells #[.int .i64 p, .int .i64 c, .int .i64 h, .int .i64 s] 25)).alloc (.cells #[.slice none 0 0, .slice none 0 0] 28)).heap.size := BR.lt
    generalize ((w.alloc (.cells #[.int .i64 p, .int .i64 c, .int .i64 h, .int .i64 s] 25)).alloc (.cells #[.slice none 0 0, .slice none 0 0] 28)) = vA at *
    clear x0 x1 x2 x3 xf xl
    refine (HV.out _).mono ?_
    rintro e w1 ⟨rfl, hb1⟩
    replace BV := BV.below hb1
    replace BR := BR.below hb1
    have hz_hb1 := hb1.size
    replace hbw := chain hbw hb1
    clear hb1
    go_wp2_with fail
    refine (HH.out _).mono ?_
    rintro e w2 ⟨rfl, rfl⟩
    obtain ⟨y0, y1, yf, yl⟩ := BR.two
    go_wp2_with fail
    have BRn := (BR.set (i := 0) (.slice none 0 0)).set (i := 1) (.slice none 0 0)
    obtain ⟨z0, z1, zf, zl⟩ := BRn.two
    refine bodyPost_ret (v := .tuple #[.agg #[.slice none 0 0, .slice none 0 0], .int .i64 6]) (by simp [results, Try.results36, go_sem, z0, z1]) rfl ?_
    exact ⟨none, none, 0, 0, rfl, .inl ⟨rfl, rfl, rfl, rfl⟩, below2 BR hbw (by omega)⟩
  rw [o] at hH
  have HH := Lib.hid hH
  have eE : rbE p c h s t = if rbOk p c h s t = true then 0 else 4 := by rw [rbE, if_pos g, if_pos i14, if_pos o]
  have eA : rbAll p c h s t = rbOk p c h s t := by simp [rbAll, rbIn, g, o, i14]
  rw [rbX, rbY, eE, eA]
  have hcv := fun W => conv_any t W
  have HCV := Lib.hid hcv
  obtain ⟨bs, hbs⟩ : ∃ bs, tb t = bs := ⟨_, rfl⟩
  have hbl : bs.length ≤ 84 := by rw [← hbs, tb_length]; omega
  have hbo := fun a cap W (q : URow W a (ubytes t)) => bitsOfBytes_any a t.size cap (ubytes t) fB W (ubytes_length t) (by omega) q (fB_any t o)
  rw [ubytes_bits, hbs] at hbo
  have HBO := Lib.hid hbo
  have hzP : zOf p = p.toNat + 1 := by unfold zOf; omega
  have hBI : ∃ X Y R, rbB p c h s bs = R ∧ (R = true → X = cX p bs ∧ Y = cY p bs) ∧ ∀ a cap W, IRow W a bs → Calls Try.prog 78 #[.agg #[.int .i64 p, .int .i64 c, .int .i64 h, .int .i64 s], .slice a bs.length cap] W (BoardGot2 X Y (.bool R) W) := by
    have q := fun a cap W (hq : IRow W a bs) => boardInBits_any p.toNat c h s a bs.length cap bs (cib 0 bs) (cX p bs) (cY p bs) (zOf p) W rfl (by omega) rfl hzP (by omega) rfl rfl hq
    rw [show ((p.toNat : Nat) : Int) = p by omega] at q
    by_cases hl : 2 * zOf p ≤ (cib 0 bs).length
    · exact ⟨_, _, _, by rw [rbB, decide_eq_true hl, Bool.true_and], fun _ => ⟨rfl, rfl⟩, fun a cap W hq => (q a cap W hq).1 hl⟩
    · exact ⟨[], [], false, by rw [rbB, decide_eq_false hl, Bool.false_and], fun e => by simp at e, fun a cap W hq => (q a cap W hq).2 (by omega)⟩
  obtain ⟨X, Y, R, hR, hXY, hbi⟩ := hBI
  have HBI := Lib.hid hbi
  clear hV hH eE eA hcv hbo hbi hzP
  cases R with
  | false =>
    have e1 : rbOk p c h s t = false := by rw [rbOk, hbs, hR, Bool.false_and]
    rw [e1, if_neg (by simp), if_neg (by simp), if_neg (by simp)]
    clear e1 hXY hR hv g o i14 hbl hbs
    go_enter Try.func36, Try.ntmps36
    obtain ⟨x0, x1, x2, x3, xf, xl⟩ := BV.four
    go_wp2_with fail
    have hvA : w.heap.size + 1 < ((w.alloc (.cells #[.int .i64 p, .int .i64 c, .int .i64 h, .int .i64 s] 25)).alloc (.cells #[.slice none 0 0, .slice none 0 0] 28)).heap.size := BR.lt
    generalize ((w.alloc (.cells #[.int .i64 p, .int .i64 c, .int .i64 h, .int .i64 s] 25)).alloc (.cells #[.slice none 0 0, .slice none 0 0] 28)) = vA at *
    clear x0 x1 x2 x3 xf xl
    refine (HV.out _).mono ?_
    rintro e w1 ⟨rfl, hb1⟩
    replace BV := BV.below hb1
    replace BR := BR.below hb1
    have hz_hb1 := hb1.size
    replace hbw := chain hbw hb1
    clear hb1
    go_wp2_with fail
    refine (HH.out _).mono ?_
    rintro e w2 ⟨rfl, rfl⟩
    go_wp2_with fail
    generalize hwS : w1 = wS at *
    clear hwS
    obtain ⟨J, hJ⟩ : ∃ J : Act → Act → World → Prop, J = fun a a' w' => ∃ B gc cc ab kb a1 a2 k1 k2, a' = ((((((((((a.put (some 21) (.agg #[.int .i64 p, .int .i64 c, .int .i64 h, .int .i64 s])).put (some 22) (.string t)).put (some 23) (.slice (some ⟨gc, 0, none⟩) t.size cc)).put (some 24) (.slice ab bs.length kb)).put (some 25) (.tuple #[.agg #[.slice a1 X.length k1, .slice a2 Y.length k2], .bool false])).put (some 20) (.tuple #[.agg #[.slice a1 X.length k1, .slice a2 Y.length k2], .bool false])).put (some 26) (.agg #[.slice a1 X.length k1, .slice a2 Y.length k2])).put (some 27) (.bool false)).put (some 6) (.pointer (some ⟨B, 0, none⟩))).put (some 7) (.bool false)) ∧ Blk w' B #[.slice a1 X.length k1, .slice a2 Y.length k2] 28 ∧ OBd (w.heap.size + 2) w'.heap.size w' a1 a2 X Y ∧ Blk w' w.heap.size #[.int .i64 p, .int .i64 c, .int .i64 h, .int .i64 s] 25 ∧ Blk w' (w.heap.size + 1) #[.slice none 0 0, .slice none 0 0] 28 ∧ Below w.heap.size w w' ∧ w.heap.size + 1 < B ∧ B < w'.heap.size := ⟨_, rfl⟩
    have HJ := Lib.hid hJ
    clear hJ
    refine wp_region_join J ?_ ?_
    · have hd : wS.heap.size ≤ wS.drew.heap.size ∧ wS.drew.heap.size ≤ wS.heap.size := ⟨Nat.le_refl _, Nat.le_refl _⟩
      replace BV := BV.drew
      replace BR := BR.drew
      replace hbw := hbw.drew
      refine wp_region_held_drew (S := fun w' => w'.cell? ⟨w.heap.size, 0, none⟩ = some (.int .i64 p) ∧ w'.cell? ⟨w.heap.size, 1, none⟩ = some (.int .i64 c) ∧ w'.cell? ⟨w.heap.size, 2, none⟩ = some (.int .i64 h) ∧ w'.cell? ⟨w.heap.size, 3, none⟩ = some (.int .i64 s)) (by kernel_rfl) ⟨BV.four.1, BV.four.2.1, BV.four.2.2.1, BV.four.2.2.2.1⟩ (fun hHeld => ?_)
      clear hHeld
      generalize wS.drew = vd at *
      have hHeld := (show vd.cell? ⟨w.heap.size, 0, none⟩ = some (.int .i64 p) ∧ vd.cell? ⟨w.heap.size, 1, none⟩ = some (.int .i64 c) ∧ vd.cell? ⟨w.heap.size, 2, none⟩ = some (.int .i64 h) ∧ vd.cell? ⟨w.heap.size, 3, none⟩ = some (.int .i64 s) from ⟨BV.four.1, BV.four.2.1, BV.four.2.2.1, BV.four.2.2.2.1⟩)
      refine wpAnyH_take (i := 0) (oi := { dst := some 21, op := _, type := _, pos := _, after := _, guard := _ }) (v := ?_) rfl (by kernel_rfl) (by kernel_rfl) (by kernel_rfl) (fun _ _ _ h => absurd h.1 (by simp)) (Or.inl ⟨by rfl, ?_⟩) (by assumption) ?_
      rotate_left
      · intro w hSw
        (try dsimp only at hSw)
        go_simp
        (try (with_reducible rfl))
      try simp only [Act.put, List.setIfInBounds_toArray, List.set_cons_zero, List.set_cons_succ]
      refine wpAnyH_take (i := 1) (oi := { dst := some 22, op := _, type := _, pos := _, after := _, guard := _ }) (v := ?_) rfl (by kernel_rfl) (by kernel_rfl) (by kernel_rfl) (fun _ _ _ h => absurd h.1 (by simp)) (Or.inl ⟨by rfl, ?_⟩) (by assumption) ?_
      rotate_left
      · intro w hSw
        (try dsimp only at hSw)
        go_simp
        (try (with_reducible rfl))
      try simp only [Act.put, List.setIfInBounds_toArray, List.set_cons_zero, List.set_cons_succ]
      refine wpAnyH_ready (rs := [2, 8]) (by kernel_rfl) (by simp) ?_
      refine AllReadyH.cons (o := { dst := some 23, op := _, type := _, pos := _, after := _, guard := _ }) rfl (fun K hK => ?_) (AllReadyH.cons (o := { dst := some 6, op := _, type := _, pos := _, after := _, guard := _ }) rfl (fun K hK => ?_) AllReadyH.nil)
      · obtain ⟨gc, cc, wA, hcvW, hbA, hU⟩ := HCV.out vd
        replace BV := BV.below hbA
        replace BR := BR.below hbA
        replace hbw := chain hbw hbA
        have hz_hbA := hbA.size
        go_simp
        refine hK.out _ _ ⟨BV.four.1, BV.four.2.1, BV.four.2.2.1, BV.four.2.2.2.1⟩ (fun hHeld => ?_)
        clear hK K
        try simp only [Act.put, List.setIfInBounds_toArray, List.set_cons_zero, List.set_cons_succ]
        refine wpAnyH_ready (rs := [3, 8]) (by kernel_rfl) (by simp) ?_
        refine AllReadyH.cons (o := { dst := some 24, op := _, type := _, pos := _, after := _, guard := _ }) rfl (fun K hK => ?_) (AllReadyH.cons (o := { dst := some 6, op := _, type := _, pos := _, after := _, guard := _ }) rfl (fun K hK => ?_) AllReadyH.nil)
        · go_simp
          refine (HBO.out _ _ _ hU).mono ?_
          rintro e wB ⟨ab, kb, rfl, Ob, hbB⟩
          replace BV := BV.below hbB
          replace BR := BR.below hbB
          replace hbw := chain hbw hbB
          have hz_hbB := hbB.size
          have Rb := Ob.irow
          clear Ob
          (try go_wp2_with fail)
          refine hK.out _ _ ⟨BV.four.1, BV.four.2.1, BV.four.2.2.1, BV.four.2.2.2.1⟩ (fun hHeld => ?_)
          clear hK K
          try simp only [Act.put, List.setIfInBounds_toArray, List.set_cons_zero, List.set_cons_succ]
          refine wpAnyH_ready (rs := [4, 8]) (by kernel_rfl) (by simp) ?_
          refine AllReadyH.cons (o := { dst := some 25, op := _, type := _, pos := _, after := _, guard := _ }) rfl (fun K hK => ?_) (AllReadyH.cons (o := { dst := some 6, op := _, type := _, pos := _, after := _, guard := _ }) rfl (fun K hK => ?_) AllReadyH.nil)
          · go_simp
            refine (HBI.out _ _ _ Rb).mono ?_
            rintro e wC ⟨a1, a2, k1, k2, rfl, hO, hbC⟩
            replace BV := BV.below hbC
            replace BR := BR.below hbC
            replace hbw := chain hbw hbC
            have hz_hbC := hbC.size
            (try go_wp2_with fail)
            refine hK.out _ _ ⟨BV.four.1, BV.four.2.1, BV.four.2.2.1, BV.four.2.2.2.1⟩ (fun hHeld => ?_)
            clear hK K
            try simp only [Act.put, List.setIfInBounds_toArray, List.set_cons_zero, List.set_cons_succ]
            refine wpAnyH_take (i := 5) (oi := { dst := some 20, op := _, type := _, pos := _, after := _, guard := _ }) (v := ?_) rfl (by kernel_rfl) (by kernel_rfl) (by kernel_rfl) (fun _ _ _ h => absurd h.1 (by simp)) (Or.inl ⟨by rfl, ?_⟩) (by assumption) ?_
            rotate_left
            · intro w hSw
              (try dsimp only at hSw)
              go_simp
              (try (with_reducible rfl))
            try simp only [Act.put, List.setIfInBounds_toArray, List.set_cons_zero, List.set_cons_succ]
            refine wpAnyH_take (i := 6) (oi := { dst := some 26, op := _, type := _, pos := _, after := _, guard := _ }) (v := ?_) rfl (by kernel_rfl) (by kernel_rfl) (by kernel_rfl) (fun _ _ _ h => absurd h.1 (by simp)) (Or.inl ⟨by rfl, ?_⟩) (by assumption) ?_
            rotate_left
            · intro w hSw
              (try dsimp only at hSw)
              go_simp
              (try (with_reducible rfl))
            try simp only [Act.put, List.setIfInBounds_toArray, List.set_cons_zero, List.set_cons_succ]
            refine wpAnyH_take (i := 7) (oi := { dst := some 27, op := _, type := _, pos := _, after := _, guard := _ }) (v := ?_) rfl (by kernel_rfl) (by kernel_rfl) (by kernel_rfl) (fun _ _ _ h => absurd h.1 (by simp)) (Or.inl ⟨by rfl, ?_⟩) (by assumption) ?_
            rotate_left
            · intro w hSw
              (try dsimp only at hSw)
              go_simp
              (try (with_reducible rfl))
            try simp only [Act.put, List.setIfInBounds_toArray, List.set_cons_zero, List.set_cons_succ]
            refine wpAnyH_ready (rs := [8]) (by kernel_rfl) (by simp) ?_
            refine AllReadyH.cons (o := { dst := some 6, op := _, type := _, pos := _, after := _, guard := _ }) rfl (fun K hK => ?_) AllReadyH.nil
            go_simp
            refine hK.out _ _ ⟨(BV.alloc _).four.1, (BV.alloc _).four.2.1, (BV.alloc _).four.2.2.1, (BV.alloc _).four.2.2.2.1⟩ (fun hHeld => ?_)
            clear hK K
            try simp only [Act.put, List.setIfInBounds_toArray, List.set_cons_zero, List.set_cons_succ]
            have BA := Blk.new wC #[.slice none 0 0, .slice none 0 0] 28
            have hal : Below wC.heap.size wC (wC.alloc (.cells #[.slice none 0 0, .slice none 0 0] 28)) := ((Below.refl _ _).alloc (Nat.le_refl _) _)
            have hlN : wC.heap.size + 1 ≤ (wC.alloc (.cells #[.slice none 0 0, .slice none 0 0] 28)).heap.size ∧ (wC.alloc (.cells #[.slice none 0 0, .slice none 0 0] 28)).heap.size ≤ wC.heap.size + 1 := by simp
            replace BV := BV.below hal
            replace BR := BR.below hal
            replace hO := hO.below hal
            replace hbw := chain hbw hal
            clear hal
            generalize wC.alloc (.cells #[.slice none 0 0, .slice none 0 0] 28) = wN at *
            refine wpAnyH_ready (rs := [9]) (by kernel_rfl) (by simp) ?_
            refine AllReadyH.cons (o := { dst := none, op := _, type := _, pos := _, after := _, guard := _ }) rfl (fun K hK => ?_) AllReadyH.nil
            obtain ⟨q0, q1, qf, ql⟩ := BA.two
            go_simp
            (try go_wp2_with fail)
            refine hK.out _ _ ⟨(other2 BA BV (by omega)).four.1, (other2 BA BV (by omega)).four.2.1, (other2 BA BV (by omega)).four.2.2.1, (other2 BA BV (by omega)).four.2.2.2.1⟩ (fun hHeld => ?_)
            clear hK K
            try simp only [Act.put, List.setIfInBounds_toArray, List.set_cons_zero, List.set_cons_succ]
            refine wpAnyH_take (i := 10) (oi := { dst := some 7, op := _, type := _, pos := _, after := _, guard := _ }) (v := ?_) rfl (by kernel_rfl) (by kernel_rfl) (by kernel_rfl) (fun _ _ _ h => absurd h.1 (by simp)) (Or.inl ⟨by rfl, ?_⟩) (by assumption) ?_
            rotate_left
            · intro w hSw
              (try dsimp only at hSw)
              go_simp
              (try (with_reducible rfl))
            try simp only [Act.put, List.setIfInBounds_toArray, List.set_cons_zero, List.set_cons_succ]
            refine wpAnyH_done (by kernel_rfl) ?_ _
            rw [HJ.out]
            refine ⟨rfl, _, gc, cc, ab, kb, a1, a2, k1, k2, ?_, (BA.set _).set _, ((hO.other (by omega)).other (by omega)).mono (by omega) (by simp <;> omega), other2 BA BV (by omega), other2 BA BR (by omega), below2 BA hbw (by omega), by omega, by simp; omega⟩
            simp only [Act.put, List.setIfInBounds_toArray, List.set_cons_zero, List.set_cons_succ]
          · go_simp
            refine hK.out _ _ ⟨(BV.alloc _).four.1, (BV.alloc _).four.2.1, (BV.alloc _).four.2.2.1, (BV.alloc _).four.2.2.2.1⟩ (fun hHeld => ?_)
            clear hK K
            try simp only [Act.put, List.setIfInBounds_toArray, List.set_cons_zero, List.set_cons_succ]
            have BA := Blk.new wB #[.slice none 0 0, .slice none 0 0] 28
            have hal : Below wB.heap.size wB (wB.alloc (.cells #[.slice none 0 0, .slice none 0 0] 28)) := ((Below.refl _ _).alloc (Nat.le_refl _) _)
            have hlN : wB.heap.size + 1 ≤ (wB.alloc (.cells #[.slice none 0 0, .slice none 0 0] 28)).heap.size ∧ (wB.alloc (.cells #[.slice none 0 0, .slice none 0 0] 28)).heap.size ≤ wB.heap.size + 1 := by simp
            replace BV := BV.below hal
            replace BR := BR.below hal
            replace Rb := Rb.below hal
            replace hbw := chain hbw hal
            clear hal
            generalize wB.alloc (.cells #[.slice none 0 0, .slice none 0 0] 28) = wN at *
            refine wpAnyH_ready (rs := [4]) (by kernel_rfl) (by simp) ?_
            refine AllReadyH.cons (o := { dst := some 25, op := _, type := _, pos := _, after := _, guard := _ }) rfl (fun K hK => ?_) AllReadyH.nil
            go_simp
            refine (HBI.out _ _ _ Rb).mono ?_
            rintro e wC ⟨a1, a2, k1, k2, rfl, hO, hbC⟩
            replace BV := BV.below hbC
            replace BR := BR.below hbC
            replace BA := BA.below hbC
            replace hbw := chain hbw hbC
            have hz_hbC := hbC.size
            (try go_wp2_with fail)
            refine hK.out _ _ ⟨BV.four.1, BV.four.2.1, BV.four.2.2.1, BV.four.2.2.2.1⟩ (fun hHeld => ?_)
            clear hK K
            try simp only [Act.put, List.setIfInBounds_toArray, List.set_cons_zero, List.set_cons_succ]
            refine wpAnyH_take (i := 5) (oi := { dst := some 20, op := _, type := _, pos := _, after := _, guard := _ }) (v := ?_) rfl (by kernel_rfl) (by kernel_rfl) (by kernel_rfl) (fun _ _ _ h => absurd h.1 (by simp)) (Or.inl ⟨by rfl, ?_⟩) (by assumption) ?_
            rotate_left
            · intro w hSw
              (try dsimp only at hSw)
              go_simp
              (try (with_reducible rfl))
            try simp only [Act.put, List.setIfInBounds_toArray, List.set_cons_zero, List.set_cons_succ]
            refine wpAnyH_take (i := 6) (oi := { dst := some 26, op := _, type := _, pos := _, after := _, guard := _ }) (v := ?_) rfl (by kernel_rfl) (by kernel_rfl) (by kernel_rfl) (fun _ _ _ h => absurd h.1 (by simp)) (Or.inl ⟨by rfl, ?_⟩) (by assumption) ?_
            rotate_left
            · intro w hSw
              (try dsimp only at hSw)
              go_simp
              (try (with_reducible rfl))
            try simp only [Act.put, List.setIfInBounds_toArray, List.set_cons_zero, List.set_cons_succ]
            refine wpAnyH_take (i := 7) (oi := { dst := some 27, op := _, type := _, pos := _, after := _, guard := _ }) (v := ?_) rfl (by kernel_rfl) (by kernel_rfl) (by kernel_rfl) (fun _ _ _ h => absurd h.1 (by simp)) (Or.inl ⟨by rfl, ?_⟩) (by assumption) ?_
            rotate_left
            · intro w hSw
              (try dsimp only at hSw)
              go_simp
              (try (with_reducible rfl))
            try simp only [Act.put, List.setIfInBounds_toArray, List.set_cons_zero, List.set_cons_succ]
            refine wpAnyH_ready (rs := [9]) (by kernel_rfl) (by simp) ?_
            refine AllReadyH.cons (o := { dst := none, op := _, type := _, pos := _, after := _, guard := _ }) rfl (fun K hK => ?_) AllReadyH.nil
            obtain ⟨q0, q1, qf, ql⟩ := BA.two
            go_simp
            (try go_wp2_with fail)
            refine hK.out _ _ ⟨(other2 BA BV (by omega)).four.1, (other2 BA BV (by omega)).four.2.1, (other2 BA BV (by omega)).four.2.2.1, (other2 BA BV (by omega)).four.2.2.2.1⟩ (fun hHeld => ?_)
            clear hK K
            try simp only [Act.put, List.setIfInBounds_toArray, List.set_cons_zero, List.set_cons_succ]
            refine wpAnyH_take (i := 10) (oi := { dst := some 7, op := _, type := _, pos := _, after := _, guard := _ }) (v := ?_) rfl (by kernel_rfl) (by kernel_rfl) (by kernel_rfl) (fun _ _ _ h => absurd h.1 (by simp)) (Or.inl ⟨by rfl, ?_⟩) (by assumption) ?_
            rotate_left
            · intro w hSw
              (try dsimp only at hSw)
              go_simp
              (try (with_reducible rfl))
            try simp only [Act.put, List.setIfInBounds_toArray, List.set_cons_zero, List.set_cons_succ]
            refine wpAnyH_done (by kernel_rfl) ?_ _
            rw [HJ.out]
            refine ⟨rfl, _, gc, cc, ab, kb, a1, a2, k1, k2, ?_, (BA.set _).set _, ((hO.other (by omega)).other (by omega)).mono (by omega) (by simp <;> omega), other2 BA BV (by omega), other2 BA BR (by omega), below2 BA hbw (by omega), by omega, by simp; omega⟩
            simp only [Act.put, List.setIfInBounds_toArray, List.set_cons_zero, List.set_cons_succ]
        · go_simp
          refine hK.out _ _ ⟨(BV.alloc _).four.1, (BV.alloc _).four.2.1, (BV.alloc _).four.2.2.1, (BV.alloc _).four.2.2.2.1⟩ (fun hHeld => ?_)
          clear hK K
          try simp only [Act.put, List.setIfInBounds_toArray, List.set_cons_zero, List.set_cons_succ]
          have BA := Blk.new wA #[.slice none 0 0, .slice none 0 0] 28
          have hal : Below wA.heap.size wA (wA.alloc (.cells #[.slice none 0 0, .slice none 0 0] 28)) := ((Below.refl _ _).alloc (Nat.le_refl _) _)
          have hlN : wA.heap.size + 1 ≤ (wA.alloc (.cells #[.slice none 0 0, .slice none 0 0] 28)).heap.size ∧ (wA.alloc (.cells #[.slice none 0 0, .slice none 0 0] 28)).heap.size ≤ wA.heap.size + 1 := by simp
          replace BV := BV.below hal
          replace BR := BR.below hal
          replace hU := hU.below hal
          replace hbw := chain hbw hal
          clear hal
          generalize wA.alloc (.cells #[.slice none 0 0, .slice none 0 0] 28) = wN at *
          refine wpAnyH_ready (rs := [3]) (by kernel_rfl) (by simp) ?_
          refine AllReadyH.cons (o := { dst := some 24, op := _, type := _, pos := _, after := _, guard := _ }) rfl (fun K hK => ?_) AllReadyH.nil
          go_simp
          refine (HBO.out _ _ _ hU).mono ?_
          rintro e wB ⟨ab, kb, rfl, Ob, hbB⟩
          replace BV := BV.below hbB
          replace BR := BR.below hbB
          replace BA := BA.below hbB
          replace hbw := chain hbw hbB
          have hz_hbB := hbB.size
          have Rb := Ob.irow
          clear Ob
          (try go_wp2_with fail)
          refine hK.out _ _ ⟨BV.four.1, BV.four.2.1, BV.four.2.2.1, BV.four.2.2.2.1⟩ (fun hHeld => ?_)
          clear hK K
          try simp only [Act.put, List.setIfInBounds_toArray, List.set_cons_zero, List.set_cons_succ]
          refine wpAnyH_ready (rs := [4]) (by kernel_rfl) (by simp) ?_
          refine AllReadyH.cons (o := { dst := some 25, op := _, type := _, pos := _, after := _, guard := _ }) rfl (fun K hK => ?_) AllReadyH.nil
          go_simp
          refine (HBI.out _ _ _ Rb).mono ?_
          rintro e wC ⟨a1, a2, k1, k2, rfl, hO, hbC⟩
          replace BV := BV.below hbC
          replace BR := BR.below hbC
          replace BA := BA.below hbC
          replace hbw := chain hbw hbC
          have hz_hbC := hbC.size
          (try go_wp2_with fail)
          refine hK.out _ _ ⟨BV.four.1, BV.four.2.1, BV.four.2.2.1, BV.four.2.2.2.1⟩ (fun hHeld => ?_)
          clear hK K
          try simp only [Act.put, List.setIfInBounds_toArray, List.set_cons_zero, List.set_cons_succ]
          refine wpAnyH_take (i := 5) (oi := { dst := some 20, op := _, type := _, pos := _, after := _, guard := _ }) (v := ?_) rfl (by kernel_rfl) (by kernel_rfl) (by kernel_rfl) (fun _ _ _ h => absurd h.1 (by simp)) (Or.inl ⟨by rfl, ?_⟩) (by assumption) ?_
          rotate_left
          · intro w hSw
            (try dsimp only at hSw)
            go_simp
            (try (with_reducible rfl))
          try simp only [Act.put, List.setIfInBounds_toArray, List.set_cons_zero, List.set_cons_succ]
          refine wpAnyH_take (i := 6) (oi := { dst := some 26, op := _, type := _, pos := _, after := _, guard := _ }) (v := ?_) rfl (by kernel_rfl) (by kernel_rfl) (by kernel_rfl) (fun _ _ _ h => absurd h.1 (by simp)) (Or.inl ⟨by rfl, ?_⟩) (by assumption) ?_
          rotate_left
          · intro w hSw
            (try dsimp only at hSw)
            go_simp
            (try (with_reducible rfl))
          try simp only [Act.put, List.setIfInBounds_toArray, List.set_cons_zero, List.set_cons_succ]
          refine wpAnyH_take (i := 7) (oi := { dst := some 27, op := _, type := _, pos := _, after := _, guard := _ }) (v := ?_) rfl (by kernel_rfl) (by kernel_rfl) (by kernel_rfl) (fun _ _ _ h => absurd h.1 (by simp)) (Or.inl ⟨by rfl, ?_⟩) (by assumption) ?_
          rotate_left
          · intro w hSw
            (try dsimp only at hSw)
            go_simp
            (try (with_reducible rfl))
          try simp only [Act.put, List.setIfInBounds_toArray, List.set_cons_zero, List.set_cons_succ]
          refine wpAnyH_ready (rs := [9]) (by kernel_rfl) (by simp) ?_
          refine AllReadyH.cons (o := { dst := none, op := _, type := _, pos := _, after := _, guard := _ }) rfl (fun K hK => ?_) AllReadyH.nil
          obtain ⟨q0, q1, qf, ql⟩ := BA.two
          go_simp
          (try go_wp2_with fail)
          refine hK.out _ _ ⟨(other2 BA BV (by omega)).four.1, (other2 BA BV (by omega)).four.2.1, (other2 BA BV (by omega)).four.2.2.1, (other2 BA BV (by omega)).four.2.2.2.1⟩ (fun hHeld => ?_)
          clear hK K
          try simp only [Act.put, List.setIfInBounds_toArray, List.set_cons_zero, List.set_cons_succ]
          refine wpAnyH_take (i := 10) (oi := { dst := some 7, op := _, type := _, pos := _, after := _, guard := _ }) (v := ?_) rfl (by kernel_rfl) (by kernel_rfl) (by kernel_rfl) (fun _ _ _ h => absurd h.1 (by simp)) (Or.inl ⟨by rfl, ?_⟩) (by assumption) ?_
          rotate_left
          · intro w hSw
            (try dsimp only at hSw)
            go_simp
            (try (with_reducible rfl))
          try simp only [Act.put, List.setIfInBounds_toArray, List.set_cons_zero, List.set_cons_succ]
          refine wpAnyH_done (by kernel_rfl) ?_ _
          rw [HJ.out]
          refine ⟨rfl, _, gc, cc, ab, kb, a1, a2, k1, k2, ?_, (BA.set _).set _, ((hO.other (by omega)).other (by omega)).mono (by omega) (by simp <;> omega), other2 BA BV (by omega), other2 BA BR (by omega), below2 BA hbw (by omega), by omega, by simp; omega⟩
          simp only [Act.put, List.setIfInBounds_toArray, List.set_cons_zero, List.set_cons_succ]
      · go_simp
        refine hK.out _ _ ⟨(BV.alloc _).four.1, (BV.alloc _).four.2.1, (BV.alloc _).four.2.2.1, (BV.alloc _).four.2.2.2.1⟩ (fun hHeld => ?_)
        clear hK K
        try simp only [Act.put, List.setIfInBounds_toArray, List.set_cons_zero, List.set_cons_succ]
        have BA := Blk.new vd #[.slice none 0 0, .slice none 0 0] 28
        have hal : Below vd.heap.size vd (vd.alloc (.cells #[.slice none 0 0, .slice none 0 0] 28)) := ((Below.refl _ _).alloc (Nat.le_refl _) _)
        have hlN : vd.heap.size + 1 ≤ (vd.alloc (.cells #[.slice none 0 0, .slice none 0 0] 28)).heap.size ∧ (vd.alloc (.cells #[.slice none 0 0, .slice none 0 0] 28)).heap.size ≤ vd.heap.size + 1 := by simp
        replace BV := BV.below hal
        replace BR := BR.below hal
        replace hbw := chain hbw hal
        clear hal
        generalize vd.alloc (.cells #[.slice none 0 0, .slice none 0 0] 28) = wN at *
        refine wpAnyH_ready (rs := [2]) (by kernel_rfl) (by simp) ?_
        refine AllReadyH.cons (o := { dst := some 23, op := _, type := _, pos := _, after := _, guard := _ }) rfl (fun K hK => ?_) AllReadyH.nil
        obtain ⟨gc, cc, wA, hcvW, hbA, hU⟩ := HCV.out wN
        replace BV := BV.below hbA
        replace BR := BR.below hbA
        replace BA := BA.below hbA
        replace hbw := chain hbw hbA
        have hz_hbA := hbA.size
        go_simp
        refine hK.out _ _ ⟨BV.four.1, BV.four.2.1, BV.four.2.2.1, BV.four.2.2.2.1⟩ (fun hHeld => ?_)
        clear hK K
        try simp only [Act.put, List.setIfInBounds_toArray, List.set_cons_zero, List.set_cons_succ]
        refine wpAnyH_ready (rs := [3]) (by kernel_rfl) (by simp) ?_
        refine AllReadyH.cons (o := { dst := some 24, op := _, type := _, pos := _, after := _, guard := _ }) rfl (fun K hK => ?_) AllReadyH.nil
        go_simp
        refine (HBO.out _ _ _ hU).mono ?_
        rintro e wB ⟨ab, kb, rfl, Ob, hbB⟩
        replace BV := BV.below hbB
        replace BR := BR.below hbB
        replace BA := BA.below hbB
        replace hbw := chain hbw hbB
        have hz_hbB := hbB.size
        have Rb := Ob.irow
        clear Ob
        (try go_wp2_with fail)
        refine hK.out _ _ ⟨BV.four.1, BV.four.2.1, BV.four.2.2.1, BV.four.2.2.2.1⟩ (fun hHeld => ?_)
        clear hK K
        try simp only [Act.put, List.setIfInBounds_toArray, List.set_cons_zero, List.set_cons_succ]
        refine wpAnyH_ready (rs := [4]) (by kernel_rfl) (by simp) ?_
        refine AllReadyH.cons (o := { dst := some 25, op := _, type := _, pos := _, after := _, guard := _ }) rfl (fun K hK => ?_) AllReadyH.nil
        go_simp
        refine (HBI.out _ _ _ Rb).mono ?_
        rintro e wC ⟨a1, a2, k1, k2, rfl, hO, hbC⟩
        replace BV := BV.below hbC
        replace BR := BR.below hbC
        replace BA := BA.below hbC
        replace hbw := chain hbw hbC
        have hz_hbC := hbC.size
        (try go_wp2_with fail)
        refine hK.out _ _ ⟨BV.four.1, BV.four.2.1, BV.four.2.2.1, BV.four.2.2.2.1⟩ (fun hHeld => ?_)
        clear hK K
        try simp only [Act.put, List.setIfInBounds_toArray, List.set_cons_zero, List.set_cons_succ]
        refine wpAnyH_take (i := 5) (oi := { dst := some 20, op := _, type := _, pos := _, after := _, guard := _ }) (v := ?_) rfl (by kernel_rfl) (by kernel_rfl) (by kernel_rfl) (fun _ _ _ h => absurd h.1 (by simp)) (Or.inl ⟨by rfl, ?_⟩) (by assumption) ?_
        rotate_left
        · intro w hSw
          (try dsimp only at hSw)
          go_simp
          (try (with_reducible rfl))
        try simp only [Act.put, List.setIfInBounds_toArray, List.set_cons_zero, List.set_cons_succ]
        refine wpAnyH_take (i := 6) (oi := { dst := some 26, op := _, type := _, pos := _, after := _, guard := _ }) (v := ?_) rfl (by kernel_rfl) (by kernel_rfl) (by kernel_rfl) (fun _ _ _ h => absurd h.1 (by simp)) (Or.inl ⟨by rfl, ?_⟩) (by assumption) ?_
        rotate_left
        · intro w hSw
          (try dsimp only at hSw)
          go_simp
          (try (with_reducible rfl))
        try simp only [Act.put, List.setIfInBounds_toArray, List.set_cons_zero, List.set_cons_succ]
        refine wpAnyH_take (i := 7) (oi := { dst := some 27, op := _, type := _, pos := _, after := _, guard := _ }) (v := ?_) rfl (by kernel_rfl) (by kernel_rfl) (by kernel_rfl) (fun _ _ _ h => absurd h.1 (by simp)) (Or.inl ⟨by rfl, ?_⟩) (by assumption) ?_
        rotate_left
        · intro w hSw
          (try dsimp only at hSw)
          go_simp
          (try (with_reducible rfl))
        try simp only [Act.put, List.setIfInBounds_toArray, List.set_cons_zero, List.set_cons_succ]
        refine wpAnyH_ready (rs := [9]) (by kernel_rfl) (by simp) ?_
        refine AllReadyH.cons (o := { dst := none, op := _, type := _, pos := _, after := _, guard := _ }) rfl (fun K hK => ?_) AllReadyH.nil
        obtain ⟨q0, q1, qf, ql⟩ := BA.two
        go_simp
        (try go_wp2_with fail)
        refine hK.out _ _ ⟨(other2 BA BV (by omega)).four.1, (other2 BA BV (by omega)).four.2.1, (other2 BA BV (by omega)).four.2.2.1, (other2 BA BV (by omega)).four.2.2.2.1⟩ (fun hHeld => ?_)
        clear hK K
        try simp only [Act.put, List.setIfInBounds_toArray, List.set_cons_zero, List.set_cons_succ]
        refine wpAnyH_take (i := 10) (oi := { dst := some 7, op := _, type := _, pos := _, after := _, guard := _ }) (v := ?_) rfl (by kernel_rfl) (by kernel_rfl) (by kernel_rfl) (fun _ _ _ h => absurd h.1 (by simp)) (Or.inl ⟨by rfl, ?_⟩) (by assumption) ?_
        rotate_left
        · intro w hSw
          (try dsimp only at hSw)
          go_simp
          (try (with_reducible rfl))
        try simp only [Act.put, List.setIfInBounds_toArray, List.set_cons_zero, List.set_cons_succ]
        refine wpAnyH_done (by kernel_rfl) ?_ _
        rw [HJ.out]
        refine ⟨rfl, _, gc, cc, ab, kb, a1, a2, k1, k2, ?_, (BA.set _).set _, ((hO.other (by omega)).other (by omega)).mono (by omega) (by simp <;> omega), other2 BA BV (by omega), other2 BA BR (by omega), below2 BA hbw (by omega), by omega, by simp; omega⟩
        simp only [Act.put, List.setIfInBounds_toArray, List.set_cons_zero, List.set_cons_succ]
    · intro a' w8 hj
      rw [HJ.out] at hj
      clear HJ BV BR hbw
      obtain ⟨B, gc, cc, ab, kb, a1, a2, k1, k2, rfl, BX, hO, BV, BR, hbw, hs1, hs2⟩ := hj
      try simp only [Act.put, List.setIfInBounds_toArray, List.set_cons_zero, List.set_cons_succ]
      obtain ⟨y0, y1, yf, yl⟩ := BR.two
      go_wp2_with fail
      have BRn := (BR.set (i := 0) (.slice none 0 0)).set (i := 1) (.slice none 0 0)
      obtain ⟨z0, z1, zf, zl⟩ := BRn.two
      refine bodyPost_ret (v := .tuple #[.agg #[.slice none 0 0, .slice none 0 0], .int .i64 4]) (by simp [results, Try.results36, go_sem, z0, z1]) rfl ?_
      exact ⟨none, none, 0, 0, rfl, .inl ⟨rfl, rfl, rfl, rfl⟩, below2 BR hbw (by omega)⟩
  | true =>
    obtain ⟨eX, eY⟩ := hXY rfl
    have hi : isB p c h s X Y = true := by
      rw [eX, eY]
      rw [rbB, Bool.and_eq_true] at hR
      exact hR.2
    have hbt := isB_bits hi
    obtain ⟨⟨f1, f2, f3⟩, ⟨f4, f5, f6⟩, f7, f8⟩ := isB_fit hi
    have hzl : (bitsL X ++ bitsL Y).length ≤ 80 := by simp; omega
    have hbin : Bin (bitsL X ++ bitsL Y) := (bitsL_bin X).append (bitsL_bin Y)
    have hok : rbOk p c h s t = decide (idS (bitsL X ++ bitsL Y) = t.data.toList) := by rw [rbOk, hbs, hR, Bool.true_and, rbT, eX, eY]
    rw [hok, hbs, ← eX, ← eY]
    obtain ⟨zs, hzs⟩ : ∃ zs, bitsL X ++ bitsL Y = zs := ⟨_, rfl⟩
    rw [hzs] at hbt hzl hbin ⊢
    have hid := fun a cap W (q : IRow W a zs) => idText_any a zs.length cap zs W rfl (by omega) hbin q
    obtain ⟨T, hT⟩ : ∃ T : ByteArray, ⟨(idS zs).toArray⟩ = T := ⟨_, rfl⟩
    rw [hT] at hid
    have HBT := Lib.hid hbt
    have HID := Lib.hid hid
    clear hbt hid hok hi hzs hbin hzl f1 f2 f3 f4 f5 f6 f7 f8
    by_cases hD : T = t
    · have e2 : idS zs = t.data.toList := bytes_eq.1 (hT.trans hD)
      rw [e2, decide_eq_true rfl, if_pos rfl, if_pos rfl, if_pos rfl]
      subst hD
      clear e2 hT eX eY hXY hR hv g o i14 hbl hbs
      go_enter Try.func36, Try.ntmps36
      obtain ⟨x0, x1, x2, x3, xf, xl⟩ := BV.four
      go_wp2_with fail
      have hvA : w.heap.size + 1 < ((w.alloc (.cells #[.int .i64 p, .int .i64 c, .int .i64 h, .int .i64 s] 25)).alloc (.cells #[.slice none 0 0, .slice none 0 0] 28)).heap.size := BR.lt
      generalize ((w.alloc (.cells #[.int .i64 p, .int .i64 c, .int .i64 h, .int .i64 s] 25)).alloc (.cells #[.slice none 0 0, .slice none 0 0] 28)) = vA at *
      clear x0 x1 x2 x3 xf xl
      refine (HV.out _).mono ?_
      rintro e w1 ⟨rfl, hb1⟩
      replace BV := BV.below hb1
      replace BR := BR.below hb1
      have hz_hb1 := hb1.size
      replace hbw := chain hbw hb1
      clear hb1
      go_wp2_with fail
      refine (HH.out _).mono ?_
      rintro e w2 ⟨rfl, rfl⟩
      go_wp2_with fail
      generalize hwS : w1 = wS at *
      clear hwS
      obtain ⟨J, hJ⟩ : ∃ J : Act → Act → World → Prop, J = fun a a' w' => ∃ B gc cc ab kb a1 a2 k1 k2, a' = ((((((((((a.put (some 21) (.agg #[.int .i64 p, .int .i64 c, .int .i64 h, .int .i64 s])).put (some 22) (.string T)).put (some 23) (.slice (some ⟨gc, 0, none⟩) T.size cc)).put (some 24) (.slice ab bs.length kb)).put (some 25) (.tuple #[.agg #[.slice a1 X.length k1, .slice a2 Y.length k2], .bool true])).put (some 20) (.tuple #[.agg #[.slice a1 X.length k1, .slice a2 Y.length k2], .bool true])).put (some 26) (.agg #[.slice a1 X.length k1, .slice a2 Y.length k2])).put (some 27) (.bool true)).put (some 6) (.pointer (some ⟨B, 0, none⟩))).put (some 7) (.bool true)) ∧ Blk w' B #[.slice a1 X.length k1, .slice a2 Y.length k2] 28 ∧ OBd (w.heap.size + 2) w'.heap.size w' a1 a2 X Y ∧ Blk w' w.heap.size #[.int .i64 p, .int .i64 c, .int .i64 h, .int .i64 s] 25 ∧ Blk w' (w.heap.size + 1) #[.slice none 0 0, .slice none 0 0] 28 ∧ Below w.heap.size w w' ∧ w.heap.size + 1 < B ∧ B < w'.heap.size := ⟨_, rfl⟩
      have HJ := Lib.hid hJ
      clear hJ
      refine wp_region_join J ?_ ?_
      · have hd : wS.heap.size ≤ wS.drew.heap.size ∧ wS.drew.heap.size ≤ wS.heap.size := ⟨Nat.le_refl _, Nat.le_refl _⟩
        replace BV := BV.drew
        replace BR := BR.drew
        replace hbw := hbw.drew
        refine wp_region_held_drew (S := fun w' => w'.cell? ⟨w.heap.size, 0, none⟩ = some (.int .i64 p) ∧ w'.cell? ⟨w.heap.size, 1, none⟩ = some (.int .i64 c) ∧ w'.cell? ⟨w.heap.size, 2, none⟩ = some (.int .i64 h) ∧ w'.cell? ⟨w.heap.size, 3, none⟩ = some (.int .i64 s)) (by kernel_rfl) ⟨BV.four.1, BV.four.2.1, BV.four.2.2.1, BV.four.2.2.2.1⟩ (fun hHeld => ?_)
        clear hHeld
        generalize wS.drew = vd at *
        have hHeld := (show vd.cell? ⟨w.heap.size, 0, none⟩ = some (.int .i64 p) ∧ vd.cell? ⟨w.heap.size, 1, none⟩ = some (.int .i64 c) ∧ vd.cell? ⟨w.heap.size, 2, none⟩ = some (.int .i64 h) ∧ vd.cell? ⟨w.heap.size, 3, none⟩ = some (.int .i64 s) from ⟨BV.four.1, BV.four.2.1, BV.four.2.2.1, BV.four.2.2.2.1⟩)
        refine wpAnyH_take (i := 0) (oi := { dst := some 21, op := _, type := _, pos := _, after := _, guard := _ }) (v := ?_) rfl (by kernel_rfl) (by kernel_rfl) (by kernel_rfl) (fun _ _ _ h => absurd h.1 (by simp)) (Or.inl ⟨by rfl, ?_⟩) (by assumption) ?_
        rotate_left
        · intro w hSw
          (try dsimp only at hSw)
          go_simp
          (try (with_reducible rfl))
        try simp only [Act.put, List.setIfInBounds_toArray, List.set_cons_zero, List.set_cons_succ]
        refine wpAnyH_take (i := 1) (oi := { dst := some 22, op := _, type := _, pos := _, after := _, guard := _ }) (v := ?_) rfl (by kernel_rfl) (by kernel_rfl) (by kernel_rfl) (fun _ _ _ h => absurd h.1 (by simp)) (Or.inl ⟨by rfl, ?_⟩) (by assumption) ?_
        rotate_left
        · intro w hSw
          (try dsimp only at hSw)
          go_simp
          (try (with_reducible rfl))
        try simp only [Act.put, List.setIfInBounds_toArray, List.set_cons_zero, List.set_cons_succ]
        refine wpAnyH_ready (rs := [2, 8]) (by kernel_rfl) (by simp) ?_
        refine AllReadyH.cons (o := { dst := some 23, op := _, type := _, pos := _, after := _, guard := _ }) rfl (fun K hK => ?_) (AllReadyH.cons (o := { dst := some 6, op := _, type := _, pos := _, after := _, guard := _ }) rfl (fun K hK => ?_) AllReadyH.nil)
        · obtain ⟨gc, cc, wA, hcvW, hbA, hU⟩ := HCV.out vd
          replace BV := BV.below hbA
          replace BR := BR.below hbA
          replace hbw := chain hbw hbA
          have hz_hbA := hbA.size
          go_simp
          refine hK.out _ _ ⟨BV.four.1, BV.four.2.1, BV.four.2.2.1, BV.four.2.2.2.1⟩ (fun hHeld => ?_)
          clear hK K
          try simp only [Act.put, List.setIfInBounds_toArray, List.set_cons_zero, List.set_cons_succ]
          refine wpAnyH_ready (rs := [3, 8]) (by kernel_rfl) (by simp) ?_
          refine AllReadyH.cons (o := { dst := some 24, op := _, type := _, pos := _, after := _, guard := _ }) rfl (fun K hK => ?_) (AllReadyH.cons (o := { dst := some 6, op := _, type := _, pos := _, after := _, guard := _ }) rfl (fun K hK => ?_) AllReadyH.nil)
          · go_simp
            refine (HBO.out _ _ _ hU).mono ?_
            rintro e wB ⟨ab, kb, rfl, Ob, hbB⟩
            replace BV := BV.below hbB
            replace BR := BR.below hbB
            replace hbw := chain hbw hbB
            have hz_hbB := hbB.size
            have Rb := Ob.irow
            clear Ob
            (try go_wp2_with fail)
            refine hK.out _ _ ⟨BV.four.1, BV.four.2.1, BV.four.2.2.1, BV.four.2.2.2.1⟩ (fun hHeld => ?_)
            clear hK K
            try simp only [Act.put, List.setIfInBounds_toArray, List.set_cons_zero, List.set_cons_succ]
            refine wpAnyH_ready (rs := [4, 8]) (by kernel_rfl) (by simp) ?_
            refine AllReadyH.cons (o := { dst := some 25, op := _, type := _, pos := _, after := _, guard := _ }) rfl (fun K hK => ?_) (AllReadyH.cons (o := { dst := some 6, op := _, type := _, pos := _, after := _, guard := _ }) rfl (fun K hK => ?_) AllReadyH.nil)
            · go_simp
              refine (HBI.out _ _ _ Rb).mono ?_
              rintro e wC ⟨a1, a2, k1, k2, rfl, hO, hbC⟩
              replace BV := BV.below hbC
              replace BR := BR.below hbC
              replace hbw := chain hbw hbC
              have hz_hbC := hbC.size
              (try go_wp2_with fail)
              refine hK.out _ _ ⟨BV.four.1, BV.four.2.1, BV.four.2.2.1, BV.four.2.2.2.1⟩ (fun hHeld => ?_)
              clear hK K
              try simp only [Act.put, List.setIfInBounds_toArray, List.set_cons_zero, List.set_cons_succ]
              refine wpAnyH_take (i := 5) (oi := { dst := some 20, op := _, type := _, pos := _, after := _, guard := _ }) (v := ?_) rfl (by kernel_rfl) (by kernel_rfl) (by kernel_rfl) (fun _ _ _ h => absurd h.1 (by simp)) (Or.inl ⟨by rfl, ?_⟩) (by assumption) ?_
              rotate_left
              · intro w hSw
                (try dsimp only at hSw)
                go_simp
                (try (with_reducible rfl))
              try simp only [Act.put, List.setIfInBounds_toArray, List.set_cons_zero, List.set_cons_succ]
              refine wpAnyH_take (i := 6) (oi := { dst := some 26, op := _, type := _, pos := _, after := _, guard := _ }) (v := ?_) rfl (by kernel_rfl) (by kernel_rfl) (by kernel_rfl) (fun _ _ _ h => absurd h.1 (by simp)) (Or.inl ⟨by rfl, ?_⟩) (by assumption) ?_
              rotate_left
              · intro w hSw
                (try dsimp only at hSw)
                go_simp
                (try (with_reducible rfl))
              try simp only [Act.put, List.setIfInBounds_toArray, List.set_cons_zero, List.set_cons_succ]
              refine wpAnyH_take (i := 7) (oi := { dst := some 27, op := _, type := _, pos := _, after := _, guard := _ }) (v := ?_) rfl (by kernel_rfl) (by kernel_rfl) (by kernel_rfl) (fun _ _ _ h => absurd h.1 (by simp)) (Or.inl ⟨by rfl, ?_⟩) (by assumption) ?_
              rotate_left
              · intro w hSw
                (try dsimp only at hSw)
                go_simp
                (try (with_reducible rfl))
              try simp only [Act.put, List.setIfInBounds_toArray, List.set_cons_zero, List.set_cons_succ]
              refine wpAnyH_ready (rs := [8]) (by kernel_rfl) (by simp) ?_
              refine AllReadyH.cons (o := { dst := some 6, op := _, type := _, pos := _, after := _, guard := _ }) rfl (fun K hK => ?_) AllReadyH.nil
              go_simp
              refine hK.out _ _ ⟨(BV.alloc _).four.1, (BV.alloc _).four.2.1, (BV.alloc _).four.2.2.1, (BV.alloc _).four.2.2.2.1⟩ (fun hHeld => ?_)
              clear hK K
              try simp only [Act.put, List.setIfInBounds_toArray, List.set_cons_zero, List.set_cons_succ]
              have BA := Blk.new wC #[.slice none 0 0, .slice none 0 0] 28
              have hal : Below wC.heap.size wC (wC.alloc (.cells #[.slice none 0 0, .slice none 0 0] 28)) := ((Below.refl _ _).alloc (Nat.le_refl _) _)
              have hlN : wC.heap.size + 1 ≤ (wC.alloc (.cells #[.slice none 0 0, .slice none 0 0] 28)).heap.size ∧ (wC.alloc (.cells #[.slice none 0 0, .slice none 0 0] 28)).heap.size ≤ wC.heap.size + 1 := by simp
              replace BV := BV.below hal
              replace BR := BR.below hal
              replace hO := hO.below hal
              replace hbw := chain hbw hal
              clear hal
              generalize wC.alloc (.cells #[.slice none 0 0, .slice none 0 0] 28) = wN at *
              refine wpAnyH_ready (rs := [9]) (by kernel_rfl) (by simp) ?_
              refine AllReadyH.cons (o := { dst := none, op := _, type := _, pos := _, after := _, guard := _ }) rfl (fun K hK => ?_) AllReadyH.nil
              obtain ⟨q0, q1, qf, ql⟩ := BA.two
              go_simp
              (try go_wp2_with fail)
              refine hK.out _ _ ⟨(other2 BA BV (by omega)).four.1, (other2 BA BV (by omega)).four.2.1, (other2 BA BV (by omega)).four.2.2.1, (other2 BA BV (by omega)).four.2.2.2.1⟩ (fun hHeld => ?_)
              clear hK K
              try simp only [Act.put, List.setIfInBounds_toArray, List.set_cons_zero, List.set_cons_succ]
              refine wpAnyH_take (i := 10) (oi := { dst := some 7, op := _, type := _, pos := _, after := _, guard := _ }) (v := ?_) rfl (by kernel_rfl) (by kernel_rfl) (by kernel_rfl) (fun _ _ _ h => absurd h.1 (by simp)) (Or.inl ⟨by rfl, ?_⟩) (by assumption) ?_
              rotate_left
              · intro w hSw
                (try dsimp only at hSw)
                go_simp
                (try (with_reducible rfl))
              try simp only [Act.put, List.setIfInBounds_toArray, List.set_cons_zero, List.set_cons_succ]
              refine wpAnyH_done (by kernel_rfl) ?_ _
              rw [HJ.out]
              refine ⟨rfl, _, gc, cc, ab, kb, a1, a2, k1, k2, ?_, (BA.set _).set _, ((hO.other (by omega)).other (by omega)).mono (by omega) (by simp <;> omega), other2 BA BV (by omega), other2 BA BR (by omega), below2 BA hbw (by omega), by omega, by simp; omega⟩
              simp only [Act.put, List.setIfInBounds_toArray, List.set_cons_zero, List.set_cons_succ]
            · go_simp
              refine hK.out _ _ ⟨(BV.alloc _).four.1, (BV.alloc _).four.2.1, (BV.alloc _).four.2.2.1, (BV.alloc _).four.2.2.2.1⟩ (fun hHeld => ?_)
              clear hK K
              try simp only [Act.put, List.setIfInBounds_toArray, List.set_cons_zero, List.set_cons_succ]
              have BA := Blk.new wB #[.slice none 0 0, .slice none 0 0] 28
              have hal : Below wB.heap.size wB (wB.alloc (.cells #[.slice none 0 0, .slice none 0 0] 28)) := ((Below.refl _ _).alloc (Nat.le_refl _) _)
              have hlN : wB.heap.size + 1 ≤ (wB.alloc (.cells #[.slice none 0 0, .slice none 0 0] 28)).heap.size ∧ (wB.alloc (.cells #[.slice none 0 0, .slice none 0 0] 28)).heap.size ≤ wB.heap.size + 1 := by simp
              replace BV := BV.below hal
              replace BR := BR.below hal
              replace Rb := Rb.below hal
              replace hbw := chain hbw hal
              clear hal
              generalize wB.alloc (.cells #[.slice none 0 0, .slice none 0 0] 28) = wN at *
              refine wpAnyH_ready (rs := [4]) (by kernel_rfl) (by simp) ?_
              refine AllReadyH.cons (o := { dst := some 25, op := _, type := _, pos := _, after := _, guard := _ }) rfl (fun K hK => ?_) AllReadyH.nil
              go_simp
              refine (HBI.out _ _ _ Rb).mono ?_
              rintro e wC ⟨a1, a2, k1, k2, rfl, hO, hbC⟩
              replace BV := BV.below hbC
              replace BR := BR.below hbC
              replace BA := BA.below hbC
              replace hbw := chain hbw hbC
              have hz_hbC := hbC.size
              (try go_wp2_with fail)
              refine hK.out _ _ ⟨BV.four.1, BV.four.2.1, BV.four.2.2.1, BV.four.2.2.2.1⟩ (fun hHeld => ?_)
              clear hK K
              try simp only [Act.put, List.setIfInBounds_toArray, List.set_cons_zero, List.set_cons_succ]
              refine wpAnyH_take (i := 5) (oi := { dst := some 20, op := _, type := _, pos := _, after := _, guard := _ }) (v := ?_) rfl (by kernel_rfl) (by kernel_rfl) (by kernel_rfl) (fun _ _ _ h => absurd h.1 (by simp)) (Or.inl ⟨by rfl, ?_⟩) (by assumption) ?_
              rotate_left
              · intro w hSw
                (try dsimp only at hSw)
                go_simp
                (try (with_reducible rfl))
              try simp only [Act.put, List.setIfInBounds_toArray, List.set_cons_zero, List.set_cons_succ]
              refine wpAnyH_take (i := 6) (oi := { dst := some 26, op := _, type := _, pos := _, after := _, guard := _ }) (v := ?_) rfl (by kernel_rfl) (by kernel_rfl) (by kernel_rfl) (fun _ _ _ h => absurd h.1 (by simp)) (Or.inl ⟨by rfl, ?_⟩) (by assumption) ?_
              rotate_left
              · intro w hSw
                (try dsimp only at hSw)
                go_simp
                (try (with_reducible rfl))
              try simp only [Act.put, List.setIfInBounds_toArray, List.set_cons_zero, List.set_cons_succ]
              refine wpAnyH_take (i := 7) (oi := { dst := some 27, op := _, type := _, pos := _, after := _, guard := _ }) (v := ?_) rfl (by kernel_rfl) (by kernel_rfl) (by kernel_rfl) (fun _ _ _ h => absurd h.1 (by simp)) (Or.inl ⟨by rfl, ?_⟩) (by assumption) ?_
              rotate_left
              · intro w hSw
                (try dsimp only at hSw)
                go_simp
                (try (with_reducible rfl))
              try simp only [Act.put, List.setIfInBounds_toArray, List.set_cons_zero, List.set_cons_succ]
              refine wpAnyH_ready (rs := [9]) (by kernel_rfl) (by simp) ?_
              refine AllReadyH.cons (o := { dst := none, op := _, type := _, pos := _, after := _, guard := _ }) rfl (fun K hK => ?_) AllReadyH.nil
              obtain ⟨q0, q1, qf, ql⟩ := BA.two
              go_simp
              (try go_wp2_with fail)
              refine hK.out _ _ ⟨(other2 BA BV (by omega)).four.1, (other2 BA BV (by omega)).four.2.1, (other2 BA BV (by omega)).four.2.2.1, (other2 BA BV (by omega)).four.2.2.2.1⟩ (fun hHeld => ?_)
              clear hK K
              try simp only [Act.put, List.setIfInBounds_toArray, List.set_cons_zero, List.set_cons_succ]
              refine wpAnyH_take (i := 10) (oi := { dst := some 7, op := _, type := _, pos := _, after := _, guard := _ }) (v := ?_) rfl (by kernel_rfl) (by kernel_rfl) (by kernel_rfl) (fun _ _ _ h => absurd h.1 (by simp)) (Or.inl ⟨by rfl, ?_⟩) (by assumption) ?_
              rotate_left
              · intro w hSw
                (try dsimp only at hSw)
                go_simp
                (try (with_reducible rfl))
              try simp only [Act.put, List.setIfInBounds_toArray, List.set_cons_zero, List.set_cons_succ]
              refine wpAnyH_done (by kernel_rfl) ?_ _
              rw [HJ.out]
              refine ⟨rfl, _, gc, cc, ab, kb, a1, a2, k1, k2, ?_, (BA.set _).set _, ((hO.other (by omega)).other (by omega)).mono (by omega) (by simp <;> omega), other2 BA BV (by omega), other2 BA BR (by omega), below2 BA hbw (by omega), by omega, by simp; omega⟩
              simp only [Act.put, List.setIfInBounds_toArray, List.set_cons_zero, List.set_cons_succ]
          · go_simp
            refine hK.out _ _ ⟨(BV.alloc _).four.1, (BV.alloc _).four.2.1, (BV.alloc _).four.2.2.1, (BV.alloc _).four.2.2.2.1⟩ (fun hHeld => ?_)
            clear hK K
            try simp only [Act.put, List.setIfInBounds_toArray, List.set_cons_zero, List.set_cons_succ]
            have BA := Blk.new wA #[.slice none 0 0, .slice none 0 0] 28
            have hal : Below wA.heap.size wA (wA.alloc (.cells #[.slice none 0 0, .slice none 0 0] 28)) := ((Below.refl _ _).alloc (Nat.le_refl _) _)
            have hlN : wA.heap.size + 1 ≤ (wA.alloc (.cells #[.slice none 0 0, .slice none 0 0] 28)).heap.size ∧ (wA.alloc (.cells #[.slice none 0 0, .slice none 0 0] 28)).heap.size ≤ wA.heap.size + 1 := by simp
            replace BV := BV.below hal
            replace BR := BR.below hal
            replace hU := hU.below hal
            replace hbw := chain hbw hal
            clear hal
            generalize wA.alloc (.cells #[.slice none 0 0, .slice none 0 0] 28) = wN at *
            refine wpAnyH_ready (rs := [3]) (by kernel_rfl) (by simp) ?_
            refine AllReadyH.cons (o := { dst := some 24, op := _, type := _, pos := _, after := _, guard := _ }) rfl (fun K hK => ?_) AllReadyH.nil
            go_simp
            refine (HBO.out _ _ _ hU).mono ?_
            rintro e wB ⟨ab, kb, rfl, Ob, hbB⟩
            replace BV := BV.below hbB
            replace BR := BR.below hbB
            replace BA := BA.below hbB
            replace hbw := chain hbw hbB
            have hz_hbB := hbB.size
            have Rb := Ob.irow
            clear Ob
            (try go_wp2_with fail)
            refine hK.out _ _ ⟨BV.four.1, BV.four.2.1, BV.four.2.2.1, BV.four.2.2.2.1⟩ (fun hHeld => ?_)
            clear hK K
            try simp only [Act.put, List.setIfInBounds_toArray, List.set_cons_zero, List.set_cons_succ]
            refine wpAnyH_ready (rs := [4]) (by kernel_rfl) (by simp) ?_
            refine AllReadyH.cons (o := { dst := some 25, op := _, type := _, pos := _, after := _, guard := _ }) rfl (fun K hK => ?_) AllReadyH.nil
            go_simp
            refine (HBI.out _ _ _ Rb).mono ?_
            rintro e wC ⟨a1, a2, k1, k2, rfl, hO, hbC⟩
            replace BV := BV.below hbC
            replace BR := BR.below hbC
            replace BA := BA.below hbC
            replace hbw := chain hbw hbC
            have hz_hbC := hbC.size
            (try go_wp2_with fail)
            refine hK.out _ _ ⟨BV.four.1, BV.four.2.1, BV.four.2.2.1, BV.four.2.2.2.1⟩ (fun hHeld => ?_)
            clear hK K
            try simp only [Act.put, List.setIfInBounds_toArray, List.set_cons_zero, List.set_cons_succ]
            refine wpAnyH_take (i := 5) (oi := { dst := some 20, op := _, type := _, pos := _, after := _, guard := _ }) (v := ?_) rfl (by kernel_rfl) (by kernel_rfl) (by kernel_rfl) (fun _ _ _ h => absurd h.1 (by simp)) (Or.inl ⟨by rfl, ?_⟩) (by assumption) ?_
            rotate_left
            · intro w hSw
              (try dsimp only at hSw)
              go_simp
              (try (with_reducible rfl))
            try simp only [Act.put, List.setIfInBounds_toArray, List.set_cons_zero, List.set_cons_succ]
            refine wpAnyH_take (i := 6) (oi := { dst := some 26, op := _, type := _, pos := _, after := _, guard := _ }) (v := ?_) rfl (by kernel_rfl) (by kernel_rfl) (by kernel_rfl) (fun _ _ _ h => absurd h.1 (by simp)) (Or.inl ⟨by rfl, ?_⟩) (by assumption) ?_
            rotate_left
            · intro w hSw
              (try dsimp only at hSw)
              go_simp
              (try (with_reducible rfl))
            try simp only [Act.put, List.setIfInBounds_toArray, List.set_cons_zero, List.set_cons_succ]
            refine wpAnyH_take (i := 7) (oi := { dst := some 27, op := _, type := _, pos := _, after := _, guard := _ }) (v := ?_) rfl (by kernel_rfl) (by kernel_rfl) (by kernel_rfl) (fun _ _ _ h => absurd h.1 (by simp)) (Or.inl ⟨by rfl, ?_⟩) (by assumption) ?_
            rotate_left
            · intro w hSw
              (try dsimp only at hSw)
              go_simp
              (try (with_reducible rfl))
            try simp only [Act.put, List.setIfInBounds_toArray, List.set_cons_zero, List.set_cons_succ]
            refine wpAnyH_ready (rs := [9]) (by kernel_rfl) (by simp) ?_
            refine AllReadyH.cons (o := { dst := none, op := _, type := _, pos := _, after := _, guard := _ }) rfl (fun K hK => ?_) AllReadyH.nil
            obtain ⟨q0, q1, qf, ql⟩ := BA.two
            go_simp
            (try go_wp2_with fail)
            refine hK.out _ _ ⟨(other2 BA BV (by omega)).four.1, (other2 BA BV (by omega)).four.2.1, (other2 BA BV (by omega)).four.2.2.1, (other2 BA BV (by omega)).four.2.2.2.1⟩ (fun hHeld => ?_)
            clear hK K
            try simp only [Act.put, List.setIfInBounds_toArray, List.set_cons_zero, List.set_cons_succ]
            refine wpAnyH_take (i := 10) (oi := { dst := some 7, op := _, type := _, pos := _, after := _, guard := _ }) (v := ?_) rfl (by kernel_rfl) (by kernel_rfl) (by kernel_rfl) (fun _ _ _ h => absurd h.1 (by simp)) (Or.inl ⟨by rfl, ?_⟩) (by assumption) ?_
            rotate_left
            · intro w hSw
              (try dsimp only at hSw)
              go_simp
              (try (with_reducible rfl))
            try simp only [Act.put, List.setIfInBounds_toArray, List.set_cons_zero, List.set_cons_succ]
            refine wpAnyH_done (by kernel_rfl) ?_ _
            rw [HJ.out]
            refine ⟨rfl, _, gc, cc, ab, kb, a1, a2, k1, k2, ?_, (BA.set _).set _, ((hO.other (by omega)).other (by omega)).mono (by omega) (by simp <;> omega), other2 BA BV (by omega), other2 BA BR (by omega), below2 BA hbw (by omega), by omega, by simp; omega⟩
            simp only [Act.put, List.setIfInBounds_toArray, List.set_cons_zero, List.set_cons_succ]
        · go_simp
          refine hK.out _ _ ⟨(BV.alloc _).four.1, (BV.alloc _).four.2.1, (BV.alloc _).four.2.2.1, (BV.alloc _).four.2.2.2.1⟩ (fun hHeld => ?_)
          clear hK K
          try simp only [Act.put, List.setIfInBounds_toArray, List.set_cons_zero, List.set_cons_succ]
          have BA := Blk.new vd #[.slice none 0 0, .slice none 0 0] 28
          have hal : Below vd.heap.size vd (vd.alloc (.cells #[.slice none 0 0, .slice none 0 0] 28)) := ((Below.refl _ _).alloc (Nat.le_refl _) _)
          have hlN : vd.heap.size + 1 ≤ (vd.alloc (.cells #[.slice none 0 0, .slice none 0 0] 28)).heap.size ∧ (vd.alloc (.cells #[.slice none 0 0, .slice none 0 0] 28)).heap.size ≤ vd.heap.size + 1 := by simp
          replace BV := BV.below hal
          replace BR := BR.below hal
          replace hbw := chain hbw hal
          clear hal
          generalize vd.alloc (.cells #[.slice none 0 0, .slice none 0 0] 28) = wN at *
          refine wpAnyH_ready (rs := [2]) (by kernel_rfl) (by simp) ?_
          refine AllReadyH.cons (o := { dst := some 23, op := _, type := _, pos := _, after := _, guard := _ }) rfl (fun K hK => ?_) AllReadyH.nil
          obtain ⟨gc, cc, wA, hcvW, hbA, hU⟩ := HCV.out wN
          replace BV := BV.below hbA
          replace BR := BR.below hbA
          replace BA := BA.below hbA
          replace hbw := chain hbw hbA
          have hz_hbA := hbA.size
          go_simp
          refine hK.out _ _ ⟨BV.four.1, BV.four.2.1, BV.four.2.2.1, BV.four.2.2.2.1⟩ (fun hHeld => ?_)
          clear hK K
          try simp only [Act.put, List.setIfInBounds_toArray, List.set_cons_zero, List.set_cons_succ]
          refine wpAnyH_ready (rs := [3]) (by kernel_rfl) (by simp) ?_
          refine AllReadyH.cons (o := { dst := some 24, op := _, type := _, pos := _, after := _, guard := _ }) rfl (fun K hK => ?_) AllReadyH.nil
          go_simp
          refine (HBO.out _ _ _ hU).mono ?_
          rintro e wB ⟨ab, kb, rfl, Ob, hbB⟩
          replace BV := BV.below hbB
          replace BR := BR.below hbB
          replace BA := BA.below hbB
          replace hbw := chain hbw hbB
          have hz_hbB := hbB.size
          have Rb := Ob.irow
          clear Ob
          (try go_wp2_with fail)
          refine hK.out _ _ ⟨BV.four.1, BV.four.2.1, BV.four.2.2.1, BV.four.2.2.2.1⟩ (fun hHeld => ?_)
          clear hK K
          try simp only [Act.put, List.setIfInBounds_toArray, List.set_cons_zero, List.set_cons_succ]
          refine wpAnyH_ready (rs := [4]) (by kernel_rfl) (by simp) ?_
          refine AllReadyH.cons (o := { dst := some 25, op := _, type := _, pos := _, after := _, guard := _ }) rfl (fun K hK => ?_) AllReadyH.nil
          go_simp
          refine (HBI.out _ _ _ Rb).mono ?_
          rintro e wC ⟨a1, a2, k1, k2, rfl, hO, hbC⟩
          replace BV := BV.below hbC
          replace BR := BR.below hbC
          replace BA := BA.below hbC
          replace hbw := chain hbw hbC
          have hz_hbC := hbC.size
          (try go_wp2_with fail)
          refine hK.out _ _ ⟨BV.four.1, BV.four.2.1, BV.four.2.2.1, BV.four.2.2.2.1⟩ (fun hHeld => ?_)
          clear hK K
          try simp only [Act.put, List.setIfInBounds_toArray, List.set_cons_zero, List.set_cons_succ]
          refine wpAnyH_take (i := 5) (oi := { dst := some 20, op := _, type := _, pos := _, after := _, guard := _ }) (v := ?_) rfl (by kernel_rfl) (by kernel_rfl) (by kernel_rfl) (fun _ _ _ h => absurd h.1 (by simp)) (Or.inl ⟨by rfl, ?_⟩) (by assumption) ?_
          rotate_left
          · intro w hSw
            (try dsimp only at hSw)
            go_simp
            (try (with_reducible rfl))
          try simp only [Act.put, List.setIfInBounds_toArray, List.set_cons_zero, List.set_cons_succ]
          refine wpAnyH_take (i := 6) (oi := { dst := some 26, op := _, type := _, pos := _, after := _, guard := _ }) (v := ?_) rfl (by kernel_rfl) (by kernel_rfl) (by kernel_rfl) (fun _ _ _ h => absurd h.1 (by simp)) (Or.inl ⟨by rfl, ?_⟩) (by assumption) ?_
          rotate_left
          · intro w hSw
            (try dsimp only at hSw)
            go_simp
            (try (with_reducible rfl))
          try simp only [Act.put, List.setIfInBounds_toArray, List.set_cons_zero, List.set_cons_succ]
          refine wpAnyH_take (i := 7) (oi := { dst := some 27, op := _, type := _, pos := _, after := _, guard := _ }) (v := ?_) rfl (by kernel_rfl) (by kernel_rfl) (by kernel_rfl) (fun _ _ _ h => absurd h.1 (by simp)) (Or.inl ⟨by rfl, ?_⟩) (by assumption) ?_
          rotate_left
          · intro w hSw
            (try dsimp only at hSw)
            go_simp
            (try (with_reducible rfl))
          try simp only [Act.put, List.setIfInBounds_toArray, List.set_cons_zero, List.set_cons_succ]
          refine wpAnyH_ready (rs := [9]) (by kernel_rfl) (by simp) ?_
          refine AllReadyH.cons (o := { dst := none, op := _, type := _, pos := _, after := _, guard := _ }) rfl (fun K hK => ?_) AllReadyH.nil
          obtain ⟨q0, q1, qf, ql⟩ := BA.two
          go_simp
          (try go_wp2_with fail)
          refine hK.out _ _ ⟨(other2 BA BV (by omega)).four.1, (other2 BA BV (by omega)).four.2.1, (other2 BA BV (by omega)).four.2.2.1, (other2 BA BV (by omega)).four.2.2.2.1⟩ (fun hHeld => ?_)
          clear hK K
          try simp only [Act.put, List.setIfInBounds_toArray, List.set_cons_zero, List.set_cons_succ]
          refine wpAnyH_take (i := 10) (oi := { dst := some 7, op := _, type := _, pos := _, after := _, guard := _ }) (v := ?_) rfl (by kernel_rfl) (by kernel_rfl) (by kernel_rfl) (fun _ _ _ h => absurd h.1 (by simp)) (Or.inl ⟨by rfl, ?_⟩) (by assumption) ?_
          rotate_left
          · intro w hSw
            (try dsimp only at hSw)
            go_simp
            (try (with_reducible rfl))
          try simp only [Act.put, List.setIfInBounds_toArray, List.set_cons_zero, List.set_cons_succ]
          refine wpAnyH_done (by kernel_rfl) ?_ _
          rw [HJ.out]
          refine ⟨rfl, _, gc, cc, ab, kb, a1, a2, k1, k2, ?_, (BA.set _).set _, ((hO.other (by omega)).other (by omega)).mono (by omega) (by simp <;> omega), other2 BA BV (by omega), other2 BA BR (by omega), below2 BA hbw (by omega), by omega, by simp; omega⟩
          simp only [Act.put, List.setIfInBounds_toArray, List.set_cons_zero, List.set_cons_succ]
      · intro a' w8 hj
        rw [HJ.out] at hj
        clear HJ BV BR hbw
        obtain ⟨B, gc, cc, ab, kb, a1, a2, k1, k2, rfl, BX, hO, BV, BR, hbw, hs1, hs2⟩ := hj
        try simp only [Act.put, List.setIfInBounds_toArray, List.set_cons_zero, List.set_cons_succ]
        obtain ⟨q0, q1, qf, ql⟩ := BX.two
        go_wp2_with fail
        clear q0 q1 qf ql
        refine (HBT.out _ _ _ _ _ hO.irow1 hO.irow2).mono ?_
        rintro e w9 ⟨a5, k5, rfl, hO5, hb5⟩
        replace BV := BV.below hb5
        replace BR := BR.below hb5
        replace BX := BX.below hb5
        replace hO := hO.below hb5
        have hz_hb5 := hb5.size
        replace hbw := chain hbw hb5
        clear hb5
        go_wp2_with fail
        refine (HID.out _ _ _ hO5.irow).mono ?_
        rintro e w10 ⟨rfl, hb6⟩
        replace BV := BV.below hb6
        replace BR := BR.below hb6
        replace BX := BX.below hb6
        replace hO := hO.below hb6
        have hz_hb6 := hb6.size
        replace hbw := chain hbw hb6
        clear hb6
        obtain ⟨y0, y1, yf, yl⟩ := BR.two
        obtain ⟨q0, q1, qf, ql⟩ := BX.two
        go_wp2_with fail
        have BRn := (BR.set (i := 0) (.slice a1 X.length k1)).set (i := 1) (.slice a2 Y.length k2)
        obtain ⟨z0, z1, zf, zl⟩ := BRn.two
        refine bodyPost_ret (v := .tuple #[.agg #[.slice a1 X.length k1, .slice a2 Y.length k2], .int .i64 0]) (by simp [results, Try.results36, go_sem, z0, z1]) rfl ?_
        exact ⟨a1, a2, k1, k2, rfl, ((hO.other (B := w.heap.size + 1) (.inl (by omega))).other (B := w.heap.size + 1) (.inl (by omega))).mono (by omega) (by simp; omega), below2 BR hbw (by omega)⟩
    · have e2 : ¬ (idS zs = t.data.toList) := fun e => hD (hT.symm.trans (bytes_eq.2 e))
      rw [decide_eq_false e2, if_neg (by simp), if_neg (by simp), if_neg (by simp)]
      have hne : (T.toList == t.toList) = false := by rw [← hT, ByteArray.toList_mk, ByteArray.toList_eq, beq_eq_false_iff_ne]; simpa using e2
      clear e2 hT eX eY hXY hR hv g o i14 hbl hbs
      go_enter Try.func36, Try.ntmps36
      obtain ⟨x0, x1, x2, x3, xf, xl⟩ := BV.four
      go_wp2_with fail
      have hvA : w.heap.size + 1 < ((w.alloc (.cells #[.int .i64 p, .int .i64 c, .int .i64 h, .int .i64 s] 25)).alloc (.cells #[.slice none 0 0, .slice none 0 0] 28)).heap.size := BR.lt
      generalize ((w.alloc (.cells #[.int .i64 p, .int .i64 c, .int .i64 h, .int .i64 s] 25)).alloc (.cells #[.slice none 0 0, .slice none 0 0] 28)) = vA at *
      clear x0 x1 x2 x3 xf xl
      refine (HV.out _).mono ?_
      rintro e w1 ⟨rfl, hb1⟩
      replace BV := BV.below hb1
      replace BR := BR.below hb1
      have hz_hb1 := hb1.size
      replace hbw := chain hbw hb1
      clear hb1
      go_wp2_with fail
      refine (HH.out _).mono ?_
      rintro e w2 ⟨rfl, rfl⟩
      go_wp2_with fail
      generalize hwS : w1 = wS at *
      clear hwS
      obtain ⟨J, hJ⟩ : ∃ J : Act → Act → World → Prop, J = fun a a' w' => ∃ B gc cc ab kb a1 a2 k1 k2, a' = ((((((((((a.put (some 21) (.agg #[.int .i64 p, .int .i64 c, .int .i64 h, .int .i64 s])).put (some 22) (.string t)).put (some 23) (.slice (some ⟨gc, 0, none⟩) t.size cc)).put (some 24) (.slice ab bs.length kb)).put (some 25) (.tuple #[.agg #[.slice a1 X.length k1, .slice a2 Y.length k2], .bool true])).put (some 20) (.tuple #[.agg #[.slice a1 X.length k1, .slice a2 Y.length k2], .bool true])).put (some 26) (.agg #[.slice a1 X.length k1, .slice a2 Y.length k2])).put (some 27) (.bool true)).put (some 6) (.pointer (some ⟨B, 0, none⟩))).put (some 7) (.bool true)) ∧ Blk w' B #[.slice a1 X.length k1, .slice a2 Y.length k2] 28 ∧ OBd (w.heap.size + 2) w'.heap.size w' a1 a2 X Y ∧ Blk w' w.heap.size #[.int .i64 p, .int .i64 c, .int .i64 h, .int .i64 s] 25 ∧ Blk w' (w.heap.size + 1) #[.slice none 0 0, .slice none 0 0] 28 ∧ Below w.heap.size w w' ∧ w.heap.size + 1 < B ∧ B < w'.heap.size := ⟨_, rfl⟩
      have HJ := Lib.hid hJ
      clear hJ
      refine wp_region_join J ?_ ?_
      · have hd : wS.heap.size ≤ wS.drew.heap.size ∧ wS.drew.heap.size ≤ wS.heap.size := ⟨Nat.le_refl _, Nat.le_refl _⟩
        replace BV := BV.drew
        replace BR := BR.drew
        replace hbw := hbw.drew
        refine wp_region_held_drew (S := fun w' => w'.cell? ⟨w.heap.size, 0, none⟩ = some (.int .i64 p) ∧ w'.cell? ⟨w.heap.size, 1, none⟩ = some (.int .i64 c) ∧ w'.cell? ⟨w.heap.size, 2, none⟩ = some (.int .i64 h) ∧ w'.cell? ⟨w.heap.size, 3, none⟩ = some (.int .i64 s)) (by kernel_rfl) ⟨BV.four.1, BV.four.2.1, BV.four.2.2.1, BV.four.2.2.2.1⟩ (fun hHeld => ?_)
        clear hHeld
        generalize wS.drew = vd at *
        have hHeld := (show vd.cell? ⟨w.heap.size, 0, none⟩ = some (.int .i64 p) ∧ vd.cell? ⟨w.heap.size, 1, none⟩ = some (.int .i64 c) ∧ vd.cell? ⟨w.heap.size, 2, none⟩ = some (.int .i64 h) ∧ vd.cell? ⟨w.heap.size, 3, none⟩ = some (.int .i64 s) from ⟨BV.four.1, BV.four.2.1, BV.four.2.2.1, BV.four.2.2.2.1⟩)
        refine wpAnyH_take (i := 0) (oi := { dst := some 21, op := _, type := _, pos := _, after := _, guard := _ }) (v := ?_) rfl (by kernel_rfl) (by kernel_rfl) (by kernel_rfl) (fun _ _ _ h => absurd h.1 (by simp)) (Or.inl ⟨by rfl, ?_⟩) (by assumption) ?_
        rotate_left
        · intro w hSw
          (try dsimp only at hSw)
          go_simp
          (try (with_reducible rfl))
        try simp only [Act.put, List.setIfInBounds_toArray, List.set_cons_zero, List.set_cons_succ]
        refine wpAnyH_take (i := 1) (oi := { dst := some 22, op := _, type := _, pos := _, after := _, guard := _ }) (v := ?_) rfl (by kernel_rfl) (by kernel_rfl) (by kernel_rfl) (fun _ _ _ h => absurd h.1 (by simp)) (Or.inl ⟨by rfl, ?_⟩) (by assumption) ?_
        rotate_left
        · intro w hSw
          (try dsimp only at hSw)
          go_simp
          (try (with_reducible rfl))
        try simp only [Act.put, List.setIfInBounds_toArray, List.set_cons_zero, List.set_cons_succ]
        refine wpAnyH_ready (rs := [2, 8]) (by kernel_rfl) (by simp) ?_
        refine AllReadyH.cons (o := { dst := some 23, op := _, type := _, pos := _, after := _, guard := _ }) rfl (fun K hK => ?_) (AllReadyH.cons (o := { dst := some 6, op := _, type := _, pos := _, after := _, guard := _ }) rfl (fun K hK => ?_) AllReadyH.nil)
        · obtain ⟨gc, cc, wA, hcvW, hbA, hU⟩ := HCV.out vd
          replace BV := BV.below hbA
          replace BR := BR.below hbA
          replace hbw := chain hbw hbA
          have hz_hbA := hbA.size
          go_simp
          refine hK.out _ _ ⟨BV.four.1, BV.four.2.1, BV.four.2.2.1, BV.four.2.2.2.1⟩ (fun hHeld => ?_)
          clear hK K
          try simp only [Act.put, List.setIfInBounds_toArray, List.set_cons_zero, List.set_cons_succ]
          refine wpAnyH_ready (rs := [3, 8]) (by kernel_rfl) (by simp) ?_
          refine AllReadyH.cons (o := { dst := some 24, op := _, type := _, pos := _, after := _, guard := _ }) rfl (fun K hK => ?_) (AllReadyH.cons (o := { dst := some 6, op := _, type := _, pos := _, after := _, guard := _ }) rfl (fun K hK => ?_) AllReadyH.nil)
          · go_simp
            refine (HBO.out _ _ _ hU).mono ?_
            rintro e wB ⟨ab, kb, rfl, Ob, hbB⟩
            replace BV := BV.below hbB
            replace BR := BR.below hbB
            replace hbw := chain hbw hbB
            have hz_hbB := hbB.size
            have Rb := Ob.irow
            clear Ob
            (try go_wp2_with fail)
            refine hK.out _ _ ⟨BV.four.1, BV.four.2.1, BV.four.2.2.1, BV.four.2.2.2.1⟩ (fun hHeld => ?_)
            clear hK K
            try simp only [Act.put, List.setIfInBounds_toArray, List.set_cons_zero, List.set_cons_succ]
            refine wpAnyH_ready (rs := [4, 8]) (by kernel_rfl) (by simp) ?_
            refine AllReadyH.cons (o := { dst := some 25, op := _, type := _, pos := _, after := _, guard := _ }) rfl (fun K hK => ?_) (AllReadyH.cons (o := { dst := some 6, op := _, type := _, pos := _, after := _, guard := _ }) rfl (fun K hK => ?_) AllReadyH.nil)
            · go_simp
              refine (HBI.out _ _ _ Rb).mono ?_
              rintro e wC ⟨a1, a2, k1, k2, rfl, hO, hbC⟩
              replace BV := BV.below hbC
              replace BR := BR.below hbC
              replace hbw := chain hbw hbC
              have hz_hbC := hbC.size
              (try go_wp2_with fail)
              refine hK.out _ _ ⟨BV.four.1, BV.four.2.1, BV.four.2.2.1, BV.four.2.2.2.1⟩ (fun hHeld => ?_)
              clear hK K
              try simp only [Act.put, List.setIfInBounds_toArray, List.set_cons_zero, List.set_cons_succ]
              refine wpAnyH_take (i := 5) (oi := { dst := some 20, op := _, type := _, pos := _, after := _, guard := _ }) (v := ?_) rfl (by kernel_rfl) (by kernel_rfl) (by kernel_rfl) (fun _ _ _ h => absurd h.1 (by simp)) (Or.inl ⟨by rfl, ?_⟩) (by assumption) ?_
              rotate_left
              · intro w hSw
                (try dsimp only at hSw)
                go_simp
                (try (with_reducible rfl))
              try simp only [Act.put, List.setIfInBounds_toArray, List.set_cons_zero, List.set_cons_succ]
              refine wpAnyH_take (i := 6) (oi := { dst := some 26, op := _, type := _, pos := _, after := _, guard := _ }) (v := ?_) rfl (by kernel_rfl) (by kernel_rfl) (by kernel_rfl) (fun _ _ _ h => absurd h.1 (by simp)) (Or.inl ⟨by rfl, ?_⟩) (by assumption) ?_
              rotate_left
              · intro w hSw
                (try dsimp only at hSw)
                go_simp
                (try (with_reducible rfl))
              try simp only [Act.put, List.setIfInBounds_toArray, List.set_cons_zero, List.set_cons_succ]
              refine wpAnyH_take (i := 7) (oi := { dst := some 27, op := _, type := _, pos := _, after := _, guard := _ }) (v := ?_) rfl (by kernel_rfl) (by kernel_rfl) (by kernel_rfl) (fun _ _ _ h => absurd h.1 (by simp)) (Or.inl ⟨by rfl, ?_⟩) (by assumption) ?_
              rotate_left
              · intro w hSw
                (try dsimp only at hSw)
                go_simp
                (try (with_reducible rfl))
              try simp only [Act.put, List.setIfInBounds_toArray, List.set_cons_zero, List.set_cons_succ]
              refine wpAnyH_ready (rs := [8]) (by kernel_rfl) (by simp) ?_
              refine AllReadyH.cons (o := { dst := some 6, op := _, type := _, pos := _, after := _, guard := _ }) rfl (fun K hK => ?_) AllReadyH.nil
              go_simp
              refine hK.out _ _ ⟨(BV.alloc _).four.1, (BV.alloc _).four.2.1, (BV.alloc _).four.2.2.1, (BV.alloc _).four.2.2.2.1⟩ (fun hHeld => ?_)
              clear hK K
              try simp only [Act.put, List.setIfInBounds_toArray, List.set_cons_zero, List.set_cons_succ]
              have BA := Blk.new wC #[.slice none 0 0, .slice none 0 0] 28
              have hal : Below wC.heap.size wC (wC.alloc (.cells #[.slice none 0 0, .slice none 0 0] 28)) := ((Below.refl _ _).alloc (Nat.le_refl _) _)
              have hlN : wC.heap.size + 1 ≤ (wC.alloc (.cells #[.slice none 0 0, .slice none 0 0] 28)).heap.size ∧ (wC.alloc (.cells #[.slice none 0 0, .slice none 0 0] 28)).heap.size ≤ wC.heap.size + 1 := by simp
              replace BV := BV.below hal
              replace BR := BR.below hal
              replace hO := hO.below hal
              replace hbw := chain hbw hal
              clear hal
              generalize wC.alloc (.cells #[.slice none 0 0, .slice none 0 0] 28) = wN at *
              refine wpAnyH_ready (rs := [9]) (by kernel_rfl) (by simp) ?_
              refine AllReadyH.cons (o := { dst := none, op := _, type := _, pos := _, after := _, guard := _ }) rfl (fun K hK => ?_) AllReadyH.nil
              obtain ⟨q0, q1, qf, ql⟩ := BA.two
              go_simp
              (try go_wp2_with fail)
              refine hK.out _ _ ⟨(other2 BA BV (by omega)).four.1, (other2 BA BV (by omega)).four.2.1, (other2 BA BV (by omega)).four.2.2.1, (other2 BA BV (by omega)).four.2.2.2.1⟩ (fun hHeld => ?_)
              clear hK K
              try simp only [Act.put, List.setIfInBounds_toArray, List.set_cons_zero, List.set_cons_succ]
              refine wpAnyH_take (i := 10) (oi := { dst := some 7, op := _, type := _, pos := _, after := _, guard := _ }) (v := ?_) rfl (by kernel_rfl) (by kernel_rfl) (by kernel_rfl) (fun _ _ _ h => absurd h.1 (by simp)) (Or.inl ⟨by rfl, ?_⟩) (by assumption) ?_
              rotate_left
              · intro w hSw
                (try dsimp only at hSw)
                go_simp
                (try (with_reducible rfl))
              try simp only [Act.put, List.setIfInBounds_toArray, List.set_cons_zero, List.set_cons_succ]
              refine wpAnyH_done (by kernel_rfl) ?_ _
              rw [HJ.out]
              refine ⟨rfl, _, gc, cc, ab, kb, a1, a2, k1, k2, ?_, (BA.set _).set _, ((hO.other (by omega)).other (by omega)).mono (by omega) (by simp <;> omega), other2 BA BV (by omega), other2 BA BR (by omega), below2 BA hbw (by omega), by omega, by simp; omega⟩
              simp only [Act.put, List.setIfInBounds_toArray, List.set_cons_zero, List.set_cons_succ]
            · go_simp
              refine hK.out _ _ ⟨(BV.alloc _).four.1, (BV.alloc _).four.2.1, (BV.alloc _).four.2.2.1, (BV.alloc _).four.2.2.2.1⟩ (fun hHeld => ?_)
              clear hK K
              try simp only [Act.put, List.setIfInBounds_toArray, List.set_cons_zero, List.set_cons_succ]
              have BA := Blk.new wB #[.slice none 0 0, .slice none 0 0] 28
              have hal : Below wB.heap.size wB (wB.alloc (.cells #[.slice none 0 0, .slice none 0 0] 28)) := ((Below.refl _ _).alloc (Nat.le_refl _) _)
              have hlN : wB.heap.size + 1 ≤ (wB.alloc (.cells #[.slice none 0 0, .slice none 0 0] 28)).heap.size ∧ (wB.alloc (.cells #[.slice none 0 0, .slice none 0 0] 28)).heap.size ≤ wB.heap.size + 1 := by simp
              replace BV := BV.below hal
              replace BR := BR.below hal
              replace Rb := Rb.below hal
              replace hbw := chain hbw hal
              clear hal
              generalize wB.alloc (.cells #[.slice none 0 0, .slice none 0 0] 28) = wN at *
              refine wpAnyH_ready (rs := [4]) (by kernel_rfl) (by simp) ?_
              refine AllReadyH.cons (o := { dst := some 25, op := _, type := _, pos := _, after := _, guard := _ }) rfl (fun K hK => ?_) AllReadyH.nil
              go_simp
              refine (HBI.out _ _ _ Rb).mono ?_
              rintro e wC ⟨a1, a2, k1, k2, rfl, hO, hbC⟩
              replace BV := BV.below hbC
              replace BR := BR.below hbC
              replace BA := BA.below hbC
              replace hbw := chain hbw hbC
              have hz_hbC := hbC.size
              (try go_wp2_with fail)
              refine hK.out _ _ ⟨BV.four.1, BV.four.2.1, BV.four.2.2.1, BV.four.2.2.2.1⟩ (fun hHeld => ?_)
              clear hK K
              try simp only [Act.put, List.setIfInBounds_toArray, List.set_cons_zero, List.set_cons_succ]
              refine wpAnyH_take (i := 5) (oi := { dst := some 20, op := _, type := _, pos := _, after := _, guard := _ }) (v := ?_) rfl (by kernel_rfl) (by kernel_rfl) (by kernel_rfl) (fun _ _ _ h => absurd h.1 (by simp)) (Or.inl ⟨by rfl, ?_⟩) (by assumption) ?_
              rotate_left
              · intro w hSw
                (try dsimp only at hSw)
                go_simp
                (try (with_reducible rfl))
              try simp only [Act.put, List.setIfInBounds_toArray, List.set_cons_zero, List.set_cons_succ]
              refine wpAnyH_take (i := 6) (oi := { dst := some 26, op := _, type := _, pos := _, after := _, guard := _ }) (v := ?_) rfl (by kernel_rfl) (by kernel_rfl) (by kernel_rfl) (fun _ _ _ h => absurd h.1 (by simp)) (Or.inl ⟨by rfl, ?_⟩) (by assumption) ?_
              rotate_left
              · intro w hSw
                (try dsimp only at hSw)
                go_simp
                (try (with_reducible rfl))
              try simp only [Act.put, List.setIfInBounds_toArray, List.set_cons_zero, List.set_cons_succ]
              refine wpAnyH_take (i := 7) (oi := { dst := some 27, op := _, type := _, pos := _, after := _, guard := _ }) (v := ?_) rfl (by kernel_rfl) (by kernel_rfl) (by kernel_rfl) (fun _ _ _ h => absurd h.1 (by simp)) (Or.inl ⟨by rfl, ?_⟩) (by assumption) ?_
              rotate_left
              · intro w hSw
                (try dsimp only at hSw)
                go_simp
                (try (with_reducible rfl))
              try simp only [Act.put, List.setIfInBounds_toArray, List.set_cons_zero, List.set_cons_succ]
              refine wpAnyH_ready (rs := [9]) (by kernel_rfl) (by simp) ?_
              refine AllReadyH.cons (o := { dst := none, op := _, type := _, pos := _, after := _, guard := _ }) rfl (fun K hK => ?_) AllReadyH.nil
              obtain ⟨q0, q1, qf, ql⟩ := BA.two
              go_simp
              (try go_wp2_with fail)
              refine hK.out _ _ ⟨(other2 BA BV (by omega)).four.1, (other2 BA BV (by omega)).four.2.1, (other2 BA BV (by omega)).four.2.2.1, (other2 BA BV (by omega)).four.2.2.2.1⟩ (fun hHeld => ?_)
              clear hK K
              try simp only [Act.put, List.setIfInBounds_toArray, List.set_cons_zero, List.set_cons_succ]
              refine wpAnyH_take (i := 10) (oi := { dst := some 7, op := _, type := _, pos := _, after := _, guard := _ }) (v := ?_) rfl (by kernel_rfl) (by kernel_rfl) (by kernel_rfl) (fun _ _ _ h => absurd h.1 (by simp)) (Or.inl ⟨by rfl, ?_⟩) (by assumption) ?_
              rotate_left
              · intro w hSw
                (try dsimp only at hSw)
                go_simp
                (try (with_reducible rfl))
              try simp only [Act.put, List.setIfInBounds_toArray, List.set_cons_zero, List.set_cons_succ]
              refine wpAnyH_done (by kernel_rfl) ?_ _
              rw [HJ.out]
              refine ⟨rfl, _, gc, cc, ab, kb, a1, a2, k1, k2, ?_, (BA.set _).set _, ((hO.other (by omega)).other (by omega)).mono (by omega) (by simp <;> omega), other2 BA BV (by omega), other2 BA BR (by omega), below2 BA hbw (by omega), by omega, by simp; omega⟩
              simp only [Act.put, List.setIfInBounds_toArray, List.set_cons_zero, List.set_cons_succ]
          · go_simp
            refine hK.out _ _ ⟨(BV.alloc _).four.1, (BV.alloc _).four.2.1, (BV.alloc _).four.2.2.1, (BV.alloc _).four.2.2.2.1⟩ (fun hHeld => ?_)
            clear hK K
            try simp only [Act.put, List.setIfInBounds_toArray, List.set_cons_zero, List.set_cons_succ]
            have BA := Blk.new wA #[.slice none 0 0, .slice none 0 0] 28
            have hal : Below wA.heap.size wA (wA.alloc (.cells #[.slice none 0 0, .slice none 0 0] 28)) := ((Below.refl _ _).alloc (Nat.le_refl _) _)
            have hlN : wA.heap.size + 1 ≤ (wA.alloc (.cells #[.slice none 0 0, .slice none 0 0] 28)).heap.size ∧ (wA.alloc (.cells #[.slice none 0 0, .slice none 0 0] 28)).heap.size ≤ wA.heap.size + 1 := by simp
            replace BV := BV.below hal
            replace BR := BR.below hal
            replace hU := hU.below hal
            replace hbw := chain hbw hal
            clear hal
            generalize wA.alloc (.cells #[.slice none 0 0, .slice none 0 0] 28) = wN at *
            refine wpAnyH_ready (rs := [3]) (by kernel_rfl) (by simp) ?_
            refine AllReadyH.cons (o := { dst := some 24, op := _, type := _, pos := _, after := _, guard := _ }) rfl (fun K hK => ?_) AllReadyH.nil
            go_simp
            refine (HBO.out _ _ _ hU).mono ?_
            rintro e wB ⟨ab, kb, rfl, Ob, hbB⟩
            replace BV := BV.below hbB
            replace BR := BR.below hbB
            replace BA := BA.below hbB
            replace hbw := chain hbw hbB
            have hz_hbB := hbB.size
            have Rb := Ob.irow
            clear Ob
            (try go_wp2_with fail)
            refine hK.out _ _ ⟨BV.four.1, BV.four.2.1, BV.four.2.2.1, BV.four.2.2.2.1⟩ (fun hHeld => ?_)
            clear hK K
            try simp only [Act.put, List.setIfInBounds_toArray, List.set_cons_zero, List.set_cons_succ]
            refine wpAnyH_ready (rs := [4]) (by kernel_rfl) (by simp) ?_
            refine AllReadyH.cons (o := { dst := some 25, op := _, type := _, pos := _, after := _, guard := _ }) rfl (fun K hK => ?_) AllReadyH.nil
            go_simp
            refine (HBI.out _ _ _ Rb).mono ?_
            rintro e wC ⟨a1, a2, k1, k2, rfl, hO, hbC⟩
            replace BV := BV.below hbC
            replace BR := BR.below hbC
            replace BA := BA.below hbC
            replace hbw := chain hbw hbC
            have hz_hbC := hbC.size
            (try go_wp2_with fail)
            refine hK.out _ _ ⟨BV.four.1, BV.four.2.1, BV.four.2.2.1, BV.four.2.2.2.1⟩ (fun hHeld => ?_)
            clear hK K
            try simp only [Act.put, List.setIfInBounds_toArray, List.set_cons_zero, List.set_cons_succ]
            refine wpAnyH_take (i := 5) (oi := { dst := some 20, op := _, type := _, pos := _, after := _, guard := _ }) (v := ?_) rfl (by kernel_rfl) (by kernel_rfl) (by kernel_rfl) (fun _ _ _ h => absurd h.1 (by simp)) (Or.inl ⟨by rfl, ?_⟩) (by assumption) ?_
            rotate_left
            · intro w hSw
              (try dsimp only at hSw)
              go_simp
              (try (with_reducible rfl))
            try simp only [Act.put, List.setIfInBounds_toArray, List.set_cons_zero, List.set_cons_succ]
            refine wpAnyH_take (i := 6) (oi := { dst := some 26, op := _, type := _, pos := _, after := _, guard := _ }) (v := ?_) rfl (by kernel_rfl) (by kernel_rfl) (by kernel_rfl) (fun _ _ _ h => absurd h.1 (by simp)) (Or.inl ⟨by rfl, ?_⟩) (by assumption) ?_
            rotate_left
            · intro w hSw
              (try dsimp only at hSw)
              go_simp
              (try (with_reducible rfl))
            try simp only [Act.put, List.setIfInBounds_toArray, List.set_cons_zero, List.set_cons_succ]
            refine wpAnyH_take (i := 7) (oi := { dst := some 27, op := _, type := _, pos := _, after := _, guard := _ }) (v := ?_) rfl (by kernel_rfl) (by kernel_rfl) (by kernel_rfl) (fun _ _ _ h => absurd h.1 (by simp)) (Or.inl ⟨by rfl, ?_⟩) (by assumption) ?_
            rotate_left
            · intro w hSw
              (try dsimp only at hSw)
              go_simp
              (try (with_reducible rfl))
            try simp only [Act.put, List.setIfInBounds_toArray, List.set_cons_zero, List.set_cons_succ]
            refine wpAnyH_ready (rs := [9]) (by kernel_rfl) (by simp) ?_
            refine AllReadyH.cons (o := { dst := none, op := _, type := _, pos := _, after := _, guard := _ }) rfl (fun K hK => ?_) AllReadyH.nil
            obtain ⟨q0, q1, qf, ql⟩ := BA.two
            go_simp
            (try go_wp2_with fail)
            refine hK.out _ _ ⟨(other2 BA BV (by omega)).four.1, (other2 BA BV (by omega)).four.2.1, (other2 BA BV (by omega)).four.2.2.1, (other2 BA BV (by omega)).four.2.2.2.1⟩ (fun hHeld => ?_)
            clear hK K
            try simp only [Act.put, List.setIfInBounds_toArray, List.set_cons_zero, List.set_cons_succ]
            refine wpAnyH_take (i := 10) (oi := { dst := some 7, op := _, type := _, pos := _, after := _, guard := _ }) (v := ?_) rfl (by kernel_rfl) (by kernel_rfl) (by kernel_rfl) (fun _ _ _ h => absurd h.1 (by simp)) (Or.inl ⟨by rfl, ?_⟩) (by assumption) ?_
            rotate_left
            · intro w hSw
              (try dsimp only at hSw)
              go_simp
              (try (with_reducible rfl))
            try simp only [Act.put, List.setIfInBounds_toArray, List.set_cons_zero, List.set_cons_succ]
            refine wpAnyH_done (by kernel_rfl) ?_ _
            rw [HJ.out]
            refine ⟨rfl, _, gc, cc, ab, kb, a1, a2, k1, k2, ?_, (BA.set _).set _, ((hO.other (by omega)).other (by omega)).mono (by omega) (by simp <;> omega), other2 BA BV (by omega), other2 BA BR (by omega), below2 BA hbw (by omega), by omega, by simp; omega⟩
            simp only [Act.put, List.setIfInBounds_toArray, List.set_cons_zero, List.set_cons_succ]
        · go_simp
          refine hK.out _ _ ⟨(BV.alloc _).four.1, (BV.alloc _).four.2.1, (BV.alloc _).four.2.2.1, (BV.alloc _).four.2.2.2.1⟩ (fun hHeld => ?_)
          clear hK K
          try simp only [Act.put, List.setIfInBounds_toArray, List.set_cons_zero, List.set_cons_succ]
          have BA := Blk.new vd #[.slice none 0 0, .slice none 0 0] 28
          have hal : Below vd.heap.size vd (vd.alloc (.cells #[.slice none 0 0, .slice none 0 0] 28)) := ((Below.refl _ _).alloc (Nat.le_refl _) _)
          have hlN : vd.heap.size + 1 ≤ (vd.alloc (.cells #[.slice none 0 0, .slice none 0 0] 28)).heap.size ∧ (vd.alloc (.cells #[.slice none 0 0, .slice none 0 0] 28)).heap.size ≤ vd.heap.size + 1 := by simp
          replace BV := BV.below hal
          replace BR := BR.below hal
          replace hbw := chain hbw hal
          clear hal
          generalize vd.alloc (.cells #[.slice none 0 0, .slice none 0 0] 28) = wN at *
          refine wpAnyH_ready (rs := [2]) (by kernel_rfl) (by simp) ?_
          refine AllReadyH.cons (o := { dst := some 23, op := _, type := _, pos := _, after := _, guard := _ }) rfl (fun K hK => ?_) AllReadyH.nil
          obtain ⟨gc, cc, wA, hcvW, hbA, hU⟩ := HCV.out wN
          replace BV := BV.below hbA
          replace BR := BR.below hbA
          replace BA := BA.below hbA
          replace hbw := chain hbw hbA
          have hz_hbA := hbA.size
          go_simp
          refine hK.out _ _ ⟨BV.four.1, BV.four.2.1, BV.four.2.2.1, BV.four.2.2.2.1⟩ (fun hHeld => ?_)
          clear hK K
          try simp only [Act.put, List.setIfInBounds_toArray, List.set_cons_zero, List.set_cons_succ]
          refine wpAnyH_ready (rs := [3]) (by kernel_rfl) (by simp) ?_
          refine AllReadyH.cons (o := { dst := some 24, op := _, type := _, pos := _, after := _, guard := _ }) rfl (fun K hK => ?_) AllReadyH.nil
          go_simp
          refine (HBO.out _ _ _ hU).mono ?_
          rintro e wB ⟨ab, kb, rfl, Ob, hbB⟩
          replace BV := BV.below hbB
          replace BR := BR.below hbB
          replace BA := BA.below hbB
          replace hbw := chain hbw hbB
          have hz_hbB := hbB.size
          have Rb := Ob.irow
          clear Ob
          (try go_wp2_with fail)
          refine hK.out _ _ ⟨BV.four.1, BV.four.2.1, BV.four.2.2.1, BV.four.2.2.2.1⟩ (fun hHeld => ?_)
          clear hK K
          try simp only [Act.put, List.setIfInBounds_toArray, List.set_cons_zero, List.set_cons_succ]
          refine wpAnyH_ready (rs := [4]) (by kernel_rfl) (by simp) ?_
          refine AllReadyH.cons (o := { dst := some 25, op := _, type := _, pos := _, after := _, guard := _ }) rfl (fun K hK => ?_) AllReadyH.nil
          go_simp
          refine (HBI.out _ _ _ Rb).mono ?_
          rintro e wC ⟨a1, a2, k1, k2, rfl, hO, hbC⟩
          replace BV := BV.below hbC
          replace BR := BR.below hbC
          replace BA := BA.below hbC
          replace hbw := chain hbw hbC
          have hz_hbC := hbC.size
          (try go_wp2_with fail)
          refine hK.out _ _ ⟨BV.four.1, BV.four.2.1, BV.four.2.2.1, BV.four.2.2.2.1⟩ (fun hHeld => ?_)
          clear hK K
          try simp only [Act.put, List.setIfInBounds_toArray, List.set_cons_zero, List.set_cons_succ]
          refine wpAnyH_take (i := 5) (oi := { dst := some 20, op := _, type := _, pos := _, after := _, guard := _ }) (v := ?_) rfl (by kernel_rfl) (by kernel_rfl) (by kernel_rfl) (fun _ _ _ h => absurd h.1 (by simp)) (Or.inl ⟨by rfl, ?_⟩) (by assumption) ?_
          rotate_left
          · intro w hSw
            (try dsimp only at hSw)
            go_simp
            (try (with_reducible rfl))
          try simp only [Act.put, List.setIfInBounds_toArray, List.set_cons_zero, List.set_cons_succ]
          refine wpAnyH_take (i := 6) (oi := { dst := some 26, op := _, type := _, pos := _, after := _, guard := _ }) (v := ?_) rfl (by kernel_rfl) (by kernel_rfl) (by kernel_rfl) (fun _ _ _ h => absurd h.1 (by simp)) (Or.inl ⟨by rfl, ?_⟩) (by assumption) ?_
          rotate_left
          · intro w hSw
            (try dsimp only at hSw)
            go_simp
            (try (with_reducible rfl))
          try simp only [Act.put, List.setIfInBounds_toArray, List.set_cons_zero, List.set_cons_succ]
          refine wpAnyH_take (i := 7) (oi := { dst := some 27, op := _, type := _, pos := _, after := _, guard := _ }) (v := ?_) rfl (by kernel_rfl) (by kernel_rfl) (by kernel_rfl) (fun _ _ _ h => absurd h.1 (by simp)) (Or.inl ⟨by rfl, ?_⟩) (by assumption) ?_
          rotate_left
          · intro w hSw
            (try dsimp only at hSw)
            go_simp
            (try (with_reducible rfl))
          try simp only [Act.put, List.setIfInBounds_toArray, List.set_cons_zero, List.set_cons_succ]
          refine wpAnyH_ready (rs := [9]) (by kernel_rfl) (by simp) ?_
          refine AllReadyH.cons (o := { dst := none, op := _, type := _, pos := _, after := _, guard := _ }) rfl (fun K hK => ?_) AllReadyH.nil
          obtain ⟨q0, q1, qf, ql⟩ := BA.two
          go_simp
          (try go_wp2_with fail)
          refine hK.out _ _ ⟨(other2 BA BV (by omega)).four.1, (other2 BA BV (by omega)).four.2.1, (other2 BA BV (by omega)).four.2.2.1, (other2 BA BV (by omega)).four.2.2.2.1⟩ (fun hHeld => ?_)
          clear hK K
          try simp only [Act.put, List.setIfInBounds_toArray, List.set_cons_zero, List.set_cons_succ]
          refine wpAnyH_take (i := 10) (oi := { dst := some 7, op := _, type := _, pos := _, after := _, guard := _ }) (v := ?_) rfl (by kernel_rfl) (by kernel_rfl) (by kernel_rfl) (fun _ _ _ h => absurd h.1 (by simp)) (Or.inl ⟨by rfl, ?_⟩) (by assumption) ?_
          rotate_left
          · intro w hSw
            (try dsimp only at hSw)
            go_simp
            (try (with_reducible rfl))
          try simp only [Act.put, List.setIfInBounds_toArray, List.set_cons_zero, List.set_cons_succ]
          refine wpAnyH_done (by kernel_rfl) ?_ _
          rw [HJ.out]
          refine ⟨rfl, _, gc, cc, ab, kb, a1, a2, k1, k2, ?_, (BA.set _).set _, ((hO.other (by omega)).other (by omega)).mono (by omega) (by simp <;> omega), other2 BA BV (by omega), other2 BA BR (by omega), below2 BA hbw (by omega), by omega, by simp; omega⟩
          simp only [Act.put, List.setIfInBounds_toArray, List.set_cons_zero, List.set_cons_succ]
      · intro a' w8 hj
        rw [HJ.out] at hj
        clear HJ BV BR hbw
        obtain ⟨B, gc, cc, ab, kb, a1, a2, k1, k2, rfl, BX, hO, BV, BR, hbw, hs1, hs2⟩ := hj
        try simp only [Act.put, List.setIfInBounds_toArray, List.set_cons_zero, List.set_cons_succ]
        obtain ⟨q0, q1, qf, ql⟩ := BX.two
        go_wp2_with fail
        clear q0 q1 qf ql
        refine (HBT.out _ _ _ _ _ hO.irow1 hO.irow2).mono ?_
        rintro e w9 ⟨a5, k5, rfl, hO5, hb5⟩
        replace BV := BV.below hb5
        replace BR := BR.below hb5
        replace BX := BX.below hb5
        replace hO := hO.below hb5
        have hz_hb5 := hb5.size
        replace hbw := chain hbw hb5
        clear hb5
        go_wp2_with fail
        refine (HID.out _ _ _ hO5.irow).mono ?_
        rintro e w10 ⟨rfl, hb6⟩
        replace BV := BV.below hb6
        replace BR := BR.below hb6
        replace BX := BX.below hb6
        replace hO := hO.below hb6
        have hz_hb6 := hb6.size
        replace hbw := chain hbw hb6
        clear hb6
        obtain ⟨y0, y1, yf, yl⟩ := BR.two
        obtain ⟨q0, q1, qf, ql⟩ := BX.two
        go_wp2_with fail
        have BRn := (BR.set (i := 0) (.slice none 0 0)).set (i := 1) (.slice none 0 0)
        obtain ⟨z0, z1, zf, zl⟩ := BRn.two
        refine bodyPost_ret (v := .tuple #[.agg #[.slice none 0 0, .slice none 0 0], .int .i64 4]) (by simp [results, Try.results36, go_sem, z0, z1]) rfl ?_
        exact ⟨none, none, 0, 0, rfl, .inl ⟨rfl, rfl, rfl, rfl⟩, below2 BR hbw (by omega)⟩
end Go.Proofs.Ytkddeoifdecniaa
