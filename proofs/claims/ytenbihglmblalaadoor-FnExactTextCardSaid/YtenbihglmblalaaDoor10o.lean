/- Contracts of chapter 10: the program's reading of a position. -/
import Derived.Test.YtenbihglmblalaaDoor10k
import Derived.Test.YtenbihglmblalaaDoorSpl
namespace Go.Proofs.YtenbihglmblalaaDoor
open Go.ChangeShapes Go.WideShapes Go.ChangeAt Go.RowKit
set_option linter.unusedVariables false
set_option linter.unusedSimpArgs false
set_option maxRecDepth 4000

/-- A variable of the library that holds a number, or an error. -/
def MaxCell (w : World) : Prop := ∃ m, w.cell? ⟨3, 0, none⟩ = some (.int .i64 m)
def ErrC (w : World) (g : Nat) : Prop := ∃ ev, w.cell? ⟨g, 0, none⟩ = some ev ∧ (ev = .nilIface ∨ ∃ te pe, ev = .iface te pe)
theorem MaxCell.below {w w' : World} (h : MaxCell w) (hb : Below w.heap.size w w') : MaxCell w' := by
  obtain ⟨m, hm⟩ := h
  exact ⟨m, (hb.cell (p := ⟨_, 0, none⟩) (World.block_lt_of_cell? w _ hm)).trans hm⟩
theorem ErrC.below {w w' : World} {g : Nat} (h : ErrC w g) (hb : Below w.heap.size w w') : ErrC w' g := by
  obtain ⟨ev, h1, h2⟩ := h
  exact ⟨ev, (hb.cell (p := ⟨g, 0, none⟩) (World.block_lt_of_cell? w _ h1)).trans h1, h2⟩
theorem parse_any (t : ByteArray) (w : World) (ht : t.size ≤ 1048576) (hE1 : ErrC w 4) (hE2 : ErrC w 5) :
    Calls Tryd.prog 39 #[.string t, .int .i64 10, .int .i64 64] w fun e w' => ∃ E, e = .returned (.tuple #[.int .i64 (prV t.data.toList), E]) ∧ Below w.heap.size w w' := by
  unfold prV
  cases h : Lib.parseIntB 64 t.data.toList with
  | ok n =>
    refine (Tryd.strconv_ParseInt_10_at64_ok t (by omega) n h w).mono ?_
    rintro e w' ⟨rfl, rfl | ⟨u, rfl⟩⟩
    · exact ⟨_, rfl, Below.refl _ _⟩
    · exact ⟨_, rfl, Lib.bytesWorld_below _ _ _⟩
  | «syntax» =>
    obtain ⟨ev, h1, h2⟩ := hE1
    refine (Tryd.strconv_ParseInt_10_at64_syntax t (by omega) h ev w h1 h2).mono ?_
    rintro e w' ⟨M, rfl, _, _, hb⟩
    exact ⟨_, rfl, hb⟩
  | range =>
    obtain ⟨ev, h1, h2⟩ := hE2
    refine (Tryd.strconv_ParseInt_10_at64_range t (by omega) h ev w h1 h2).mono ?_
    rintro e w' ⟨M, rfl, _, _, hb⟩
    exact ⟨_, rfl, hb⟩
/-- A list is the position whose text this is. -/
def accB (p c h s : Int) (t : List UInt8) (L : List Int) : Bool := okP p c h s L && decide (btL L = t)
theorem btL_parts {p c h s : Int} {L : List Int} (g : okP p c h s L = true) : splitL 44 (btL L) = elT L := by
  have hok := okP_parts g
  unfold btL
  refine split_join 44 (elT L) ?_ ?_
  · intro e
    have := elT_length L
    rw [e] at this
    simp at this
    omega
  · intro t ht hm
    obtain ⟨x, hx, rfl⟩ := List.mem_map.1 ht
    have h15 := hok.2.2.1 x hx
    rw [Lib.itoa, if_neg (by omega)] at hm
    have := dec_bytes (x.toNat + 1) x.toNat (by omega) 44 hm
    simp at this
theorem accB_map {p c h s : Int} {t : List UInt8} {L : List Int} (f : List UInt8 → Int) (hf : ∀ x : Int, 0 ≤ x → x < 100 → f (Lib.itoa x) = x) (g : accB p c h s t L = true) : (splitL 44 t).map f = L := by
  simp only [accB, Bool.and_eq_true, decide_eq_true_eq] at g
  have hok := okP_parts g.1
  rw [← g.2, btL_parts g.1]
  unfold elT
  rw [List.map_map]
  refine (List.map_congr_left (fun x hx => ?_)).trans (List.map_id L)
  have := hok.2.2.1 x hx
  exact hf x this.1 (by omega)
/-- Both readings accept the same texts, with the same position. -/
theorem accB_same (p c h s : Int) (t : List UInt8) : accB p c h s t ((splitL 44 t).map rdV) = accB p c h s t ((splitL 44 t).map prV) ∧
    (accB p c h s t ((splitL 44 t).map prV) = true → (splitL 44 t).map rdV = (splitL 44 t).map prV) := by
  have r : ∀ x : Int, 0 ≤ x → x < 100 → rdV (Lib.itoa x) = x := fun x h0 h1 => rdV_itoa (by omega) (by omega)
  have q : ∀ x : Int, 0 ≤ x → x < 100 → prV (Lib.itoa x) = x := fun x h0 h1 => prV_small h0 h1
  refine ⟨?_, fun g => accB_map rdV r g⟩
  cases g1 : accB p c h s t ((splitL 44 t).map rdV) with
  | true => rw [accB_map prV q g1, g1]
  | false =>
    cases g2 : accB p c h s t ((splitL 44 t).map prV) with
    | false => rfl
    | true => rw [accB_map rdV r g2, g2] at g1; cases g1
/-- What is read from a text, and whether. -/
def rbL (p c h s : Int) (t : List UInt8) : List Int := if accB p c h s t ((splitL 44 t).map prV) = true then (splitL 44 t).map prV else []
def rbB (p c h s : Int) (t : List UInt8) : Bool := accB p c h s t ((splitL 44 t).map prV)
/-- A list has been made and is handed back, beside a bool. -/
def SliceGotB (xs : List Int) (r : Bool) (w : World) (e : Ending) (w' : World) : Prop :=
  ∃ a k, e = .returned (.tuple #[.slice a xs.length k, .bool r]) ∧ OSl w.heap.size w'.heap.size w' a xs ∧ Below w.heap.size w w'
theorem fill_step (f : List UInt8 → Int) (P : List (List UInt8)) (n k : Nat) (y : List UInt8) (hy : P[k]? = some y) (hk : k < n) : ((P.take k).map f ++ List.replicate (n - k) (0 : Int)).set k (f y) = (P.take (k + 1)).map f ++ List.replicate (n - (k + 1)) 0 := by
  have hlk : k < P.length := (List.getElem?_eq_some_iff.1 hy).1
  have h1 : ((P.take k).map f).length = k := by simp; omega
  rw [List.set_append, if_neg (by omega), h1, Nat.sub_self, show n - k = (n - (k + 1)) + 1 by omega, List.replicate_succ, List.set_cons_zero, List.take_succ_eq_append_getElem hlk]
  have : P[k] = y := (List.getElem?_eq_some_iff.1 hy).2
  simp [this]
end Go.Proofs.YtenbihglmblalaaDoor
