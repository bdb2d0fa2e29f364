/- Contract of the program's function that reads a place from a word: a map of words made by the call, and a number. -/
import Derived.Test.YthfhiggageejbaaDoorM06
import Derived.Test.YthfhiggageejbaaDoorStp
import Derived.Test.YthfhiggageejbaaDoorShelf
import Derived.Maps.OwnSet
import Derived.Lib.ParseIntBTie
import Derived.Lib.AtoiTie
import Derived.Lib.AtoiBound
import Derived.Lib.AtoiErrMem
namespace Go.Proofs.YthfhiggageejbaaDoor
open Go.ChangeShapes Go.WideShapes Go.ChangeAt Go.RowKit
set_option linter.unusedVariables false
set_option linter.unusedSimpArgs false

theorem zero64 (w : World) : (zeroValue 2).run Tryd.prog w = .ok (.int .i64 0) w := by kernel_rfl
theorem key_str (t : ByteArray) (ht : t.size ≤ maxLen) : keyOf Tryd.prog 9 (.string t) = some (.string t.data.toList) := by
  rw [keyOf_string Tryd.underlying9]
  simp [mapKey, Tryd.underlying9, ht]
/-- The words. -/
def wordsD (p : Int) : DataW Unit := ((DataW.map []).put (.string barL) (.lit (.int .i64 p))).put (.string offL) (.lit (.int .i64 (-1)))
theorem keyLit (l : List UInt8) : WideAt.IsKeyLit (.string l) := trivial
theorem wordsD_off (p : Int) (z : DataW Unit) : (wordsD p).atKey (.string offL) z = .lit (.int .i64 (-1)) ∧ Maps.has (wordsD p) (.string offL) = true :=
  ⟨Maps.atKey_put_same (Maps.IsMap.put ⟨[], rfl⟩ _ _) (keyLit _) _ _, Maps.has_put_same (Maps.IsMap.put ⟨[], rfl⟩ _ _) (keyLit _) _⟩
theorem wordsD_bar (p : Int) (z : DataW Unit) : (wordsD p).atKey (.string barL) z = .lit (.int .i64 p) ∧ Maps.has (wordsD p) (.string barL) = true := by
  unfold wordsD
  have hne : Lit.string barL ≠ Lit.string offL := by simp
  rw [Maps.atKey_put_other hne, Maps.has_put_other hne]
  exact ⟨Maps.atKey_put_same ⟨[], rfl⟩ (keyLit _) _ _, Maps.has_put_same ⟨[], rfl⟩ (keyLit _) _⟩
theorem wordsD_no (p : Int) (l : List UInt8) (h1 : l ≠ barL) (h2 : l ≠ offL) (z : DataW Unit) : (wordsD p).atKey (.string l) z = z ∧ Maps.has (wordsD p) (.string l) = false := by
  unfold wordsD
  have n1 : Lit.string l ≠ Lit.string barL := by simpa using h1
  have n2 : Lit.string l ≠ Lit.string offL := by simpa using h2
  rw [Maps.atKey_put_other n2, Maps.has_put_other n2, Maps.atKey_put_other n1, Maps.has_put_other n1]
  exact ⟨rfl, rfl⟩
/-- A variable that holds an error. -/
def ErrCell (w : World) (g : Nat) : Prop := ∃ ev, w.cell? ⟨g, 0, none⟩ = some ev ∧ (ev = .nilIface ∨ ∃ te pe, ev = .iface te pe)
theorem ErrCell.below {w w' : World} {g : Nat} (h : ErrCell w g) (hb : Below w.heap.size w w') : ErrCell w' g := by
  obtain ⟨ev, h1, h2⟩ := h
  exact ⟨ev, (hb.cell (p := ⟨g, 0, none⟩) (World.block_lt_of_cell? w _ h1)).trans h1, h2⟩
theorem ErrCell.drew {w : World} {g : Nat} (h : ErrCell w g) : ErrCell w.drew g := h
theorem parseInt_any (t : ByteArray) (w : World) (ht : t.size ≤ 18) (hE : ErrCell w 2) :
    Calls Tryd.prog 76 #[.string t, .int .i64 10, .int .i64 64] w fun e w' => ∃ E, e = .returned (.tuple #[.int .i64 ((Lib.atoi t.data.toList).getD 0), E]) ∧ Below w.heap.size w w' := by
  have hl : t.data.toList.length ≤ 18 := by rw [← Lib.size_eq]; exact ht
  cases h : Lib.atoi t.data.toList with
  | some n =>
    have hp : Lib.parseIntB 64 t.data.toList = .ok n := by rw [Lib.parseIntB_64, Lib.atoiAll_short _ hl, h]; rfl
    refine (Tryd.strconv_ParseInt_10_at64_ok t (by omega) n hp w).mono ?_
    rintro e w' ⟨rfl, rfl | ⟨u, rfl⟩⟩
    · exact ⟨_, rfl, Below.refl _ _⟩
    · exact ⟨_, rfl, Lib.bytesWorld_below _ _ _⟩
  | none =>
    have hp : Lib.parseIntB 64 t.data.toList = .«syntax» := by rw [Lib.parseIntB_64, Lib.atoiAll_short _ hl, h]; rfl
    obtain ⟨ev, h1, h2⟩ := hE
    refine (Tryd.strconv_ParseInt_10_at64_syntax t (by omega) hp ev w h1 h2).mono ?_
    rintro e w' ⟨N, rfl, _, _, hb⟩
    exact ⟨_, rfl, hb⟩
theorem i64_wf {x : Int} (h : -9223372036854775808 ≤ x ∧ x ≤ 9223372036854775807) : (Lit.int .i64 x).wf = true := by
  simp [Lit.wf, IntKind.min, IntKind.max, IntKind.signed, IntKind.bits]; omega
/-- The map of words that the call makes. -/
theorem words_made (p : Int) (hp : -1000 ≤ p ∧ p ≤ 1000) (t : ByteArray) (ht : t.size ≤ maxLen) (w : World) (vs : Array Value) (ty : TypeId) (hvs : Blk w.drew w.heap.size vs ty → True) :
    ∃ w2 w3 : World, (Instr.mapUpdate 125 (.map (some (w.heap.size + 1))) (.string ⟨#[98, 97, 114]⟩) (.int .i64 p)).run Tryd.prog ((w.alloc (.cells vs ty)).alloc (.map #[] 0)) = .ok () w2 ∧ (Instr.mapUpdate 125 (.map (some (w.heap.size + 1))) (.string ⟨#[111, 102, 102]⟩) (.int .i64 (-1))).run Tryd.prog w2 = .ok () w3 ∧ Blk w2 w.heap.size vs ty ∧ Below w.heap.size w w3 ∧ Blk w3 w.heap.size vs ty ∧
      (t.data.toList = offL → (Instr.lookup 125 (.map (some (w.heap.size + 1))) (.string t) true).run Tryd.prog w3 = .ok (.tuple #[.int .i64 (-1), .bool true]) w3) ∧ (t.data.toList = barL → (Instr.lookup 125 (.map (some (w.heap.size + 1))) (.string t) true).run Tryd.prog w3 = .ok (.tuple #[.int .i64 (p), .bool true]) w3) ∧ (t.data.toList ≠ barL → t.data.toList ≠ offL → (Instr.lookup 125 (.map (some (w.heap.size + 1))) (.string t) true).run Tryd.prog w3 = .ok (.tuple #[.int .i64 (0), .bool false]) w3) := by
  have K := Maps.string_keyed (P := Tryd.prog) Tryd.underlying9
  have hM : Tryd.prog.underlying 125 = some (.map 9 2) := Tryd.underlying125
  have own0 := World.ownsMap_made (w.alloc (.cells vs ty)) Tryd.prog 9 (plainElem (H := Unit) Tryd.prog 2)
  have e1 : (w.alloc (.cells vs ty)).heap.size = w.heap.size + 1 := by simp
  rw [e1] at own0
  have hB0 : Blk ((w.alloc (.cells vs ty)).alloc (.map #[] 0)) w.heap.size vs ty := (Blk.new w vs ty).alloc (.map #[] 0)
  have hb0 : Below w.heap.size w ((w.alloc (.cells vs ty)).alloc (.map #[] 0)) := ((Below.refl _ _).alloc (Nat.le_refl _) _).alloc (by simp) _
  obtain ⟨w2, r1, own1, g1⟩ := own0.update K hM (by unfold maxLen; omega) (key_str (⟨#[98, 97, 114]⟩ : ByteArray) (by decide)) (plainElem_int Tryd.underlying2 (i64_wf (x := p) (by omega)))
  have hB1 := hB0.grown g1 (by omega)
  have hb1 := hb0.grown g1 (by simp; omega) (fun k hk => by cases hk; omega)
  obtain ⟨w3, r2, own2, g2⟩ := own1.update K hM (by unfold maxLen; omega) (key_str (⟨#[111, 102, 102]⟩ : ByteArray) (by decide)) (plainElem_int Tryd.underlying2 (i64_wf (x := -1) (by omega)))
  have hB2 := hB1.grown g2 (by omega)
  have hs1 := hb1.size
  have hb2 := hb1.grown g2 hs1 (fun k hk => by cases hk; omega)
  have hlook : ∃ c, (Instr.lookup 125 (.map (some (w.heap.size + 1))) (.string t) true).run Tryd.prog w3 = .ok (.tuple #[.int .i64 c, .bool (Maps.has (wordsD p) (.string t.data.toList))]) w3 ∧ (wordsD p).atKey (.string t.data.toList) (.lit (.int .i64 0)) = .lit (.int .i64 c) := by
    obtain ⟨v, ps, hr, hv⟩ := own2.look_ok K hM (zero64 _) (plainElem_int Tryd.underlying2 (by decide)) (key_str t ht)
    obtain ⟨c, rfl, hc, _⟩ := plainElem_int_inv Tryd.underlying2 hv
    exact ⟨c, hr, congrArg Prod.fst hc⟩
  obtain ⟨c, hr, hc⟩ := hlook
  refine ⟨w2, w3, r1, r2, hB1, hb2, hB2, ?_, ?_, ?_⟩
  · intro h
    rw [h, (wordsD_off p _).1] at hc
    rw [h, (wordsD_off p (.lit (.int .i64 0))).2] at hr
    simp at hc
    rw [← hc] at hr
    exact hr
  · intro h
    rw [h, (wordsD_bar p _).1] at hc
    rw [h, (wordsD_bar p (.lit (.int .i64 0))).2] at hr
    simp at hc
    rw [← hc] at hr
    exact hr
  · intro h1 h2
    rw [(wordsD_no p _ h1 h2 _).1] at hc
    rw [(wordsD_no p _ h1 h2 (.lit (.int .i64 0))).2] at hr
    simp at hc
    rw [← hc] at hr
    exact hr
set_option maxRecDepth 8000 in
set_option maxHeartbeats 2000000 in
theorem placeOfText_any (p c h s : Int) (t : ByteArray) (w : World) (hp : 2 ≤ p ∧ p ≤ 24) (ht : t.size ≤ 18) (hE : ErrCell w 2) :
    Calls Tryd.prog 75 #[.agg #[.int .i64 p, .int .i64 c, .int .i64 h, .int .i64 s], .string t] w fun e w' => e = .returned (.int .i64 (plN p t.data.toList)) ∧ Below w.heap.size w w' := by
  obtain ⟨w2, w3, r1, r2, B2, hb, B3, h1, h2, h3⟩ := words_made p (by omega) t (by unfold maxLen; omega) w #[.int .i64 p, .int .i64 c, .int .i64 h, .int .i64 s] 29 (fun _ => trivial)
  have BV := (Blk.new w #[.int .i64 p, .int .i64 c, .int .i64 h, .int .i64 s] 29).alloc (.map #[] 0)
  obtain ⟨x0, x1, x2, x3, xf, xl⟩ := BV.four
  have hmm : (Instr.makeMap 125 none).run Tryd.prog (w.alloc (.cells #[.int .i64 p, .int .i64 c, .int .i64 h, .int .i64 s] 29)) = .ok (.map (some (w.heap.size + 1))) ((w.alloc (.cells #[.int .i64 p, .int .i64 c, .int .i64 h, .int .i64 s] 29)).alloc (.map #[] 0)) := by
    have e1 : (w.alloc (.cells #[.int .i64 p, .int .i64 c, .int .i64 h, .int .i64 s] 29)).heap.size = w.heap.size + 1 := by simp
    rw [← e1]
    rfl
  by_cases k1 : t.data.toList = barL
  · have hr := h2 k1
    have ev : plN p t.data.toList = p := by unfold plN; rw [if_pos k1]
    rw [ev]
    clear h1 h2 h3 k1 ev
    go_enter Tryd.func75, Tryd.ntmps75
    go_wp2
    go_ret
    exact ⟨rfl, hb⟩
  · by_cases k2 : t.data.toList = offL
    · have hr := h1 k2
      have ev : plN p t.data.toList = -1 := by unfold plN; rw [if_neg k1, if_pos k2]
      rw [ev]
      clear h1 h2 h3 k1 k2 ev
      go_enter Tryd.func75, Tryd.ntmps75
      go_wp2
      go_ret
      exact ⟨rfl, hb⟩
    · have hr := h3 k1 k2
      have ev : plN p t.data.toList = if (Lib.atoi t.data.toList).getD 0 < 1 then -2 else (Lib.atoi t.data.toList).getD 0 - 1 := by unfold plN; rw [if_neg k1, if_neg k2]
      have hbd : -1000000000000000000 < (Lib.atoi t.data.toList).getD 0 ∧ (Lib.atoi t.data.toList).getD 0 < 1000000000000000000 := by
        cases q : Lib.atoi t.data.toList with
        | none => simp
        | some n => exact Lib.atoi_bound q (by rw [← Lib.size_eq]; exact ht)
      have hPI := fun (W : World) (q : ErrCell W 2) => parseInt_any t W ht q
      rw [ev]
      obtain ⟨x, hx⟩ : ∃ x, (Lib.atoi t.data.toList).getD 0 = x := ⟨_, rfl⟩
      rw [hx] at hbd hPI ⊢
      have HPI := Lib.hid hPI
      clear h1 h2 h3 k1 k2 ev hx hPI
      by_cases k : x < 1
      · rw [if_pos k]
        have e1 : decide (x < 1) = true := by simp [k]
        clear k
        go_enter Tryd.func75, Tryd.ntmps75
        go_wp2_with (first | (go_at_call 76; refine (HPI.out _ (hE.below hb)).mono ?_; rintro e w4 ⟨E, rfl, hb4⟩))
        go_ret
        exact ⟨rfl, chain hb hb4⟩
      · rw [if_neg k]
        have e1 : decide (x < 1) = false := by simp [k]
        have wz : IntKind.i64.wrap (x - 1) = x - 1 := IntWalk.i64_in _ (by omega)
        clear k
        go_enter Tryd.func75, Tryd.ntmps75
        go_wp2_with (first | (go_at_call 76; refine (HPI.out _ (hE.below hb)).mono ?_; rintro e w4 ⟨E, rfl, hb4⟩))
        go_ret
        exact ⟨rfl, chain hb hb4⟩
end Go.Proofs.YthfhiggageejbaaDoor
