/- Contracts of chapter 10: the text of a position, of the program and of its model. -/
import Derived.Test.YtjbcbcoaoplllaaDoor10a
import Derived.Test.YtjbcbcoaoplllaaDoorDec
import Derived.Test.YtjbcbcoaoplllaaDoorShelf
import Derived.Lib.Join
namespace Go.Proofs.YtjbcbcoaoplllaaDoor
open Go.ChangeShapes Go.WideShapes Go.ChangeAt Go.RowKit
set_option linter.unusedVariables false
set_option linter.unusedSimpArgs false

/-- The texts of the elements, joined. -/
def elT (xs : List Int) : List (List UInt8) := xs.map Lib.itoa
def btL (xs : List Int) : List UInt8 := Lib.join (elT xs) [44]
def btT (p c h s : Int) (xs : List Int) : List UInt8 := if okP p c h s xs = true then btL xs else []
theorem elT_length (xs : List Int) : (elT xs).length = xs.length := by simp [elT]
theorem elT_get (xs : List Int) (k : Nat) (h : k < xs.length) : (elT xs)[k]? = some (Lib.itoa (xs.getD k 0)) := by simp [elT, h]
theorem itoa_small {x : Int} (h0 : 0 ≤ x) (h1 : x < 100) : (Lib.itoa x).length ≤ 2 := by
  rw [Lib.itoa, if_neg (by omega)]
  exact dec_length 2 x.toNat (by omega) (by omega)
theorem join_short : ∀ (l : List (List UInt8)), (∀ t ∈ l, t.length ≤ 2) → (Lib.join l [44]).length ≤ 3 * l.length
  | [], _ => by simp [Lib.join_nil]
  | x :: r, h => by
    have hl : ∀ (r : List (List UInt8)), (∀ t ∈ r, t.length ≤ 2) → (Lib.joinTail [44] r).length ≤ 3 * r.length := by
      intro r
      induction r with
      | nil => intro _; simp [Lib.joinTail]
      | cons y r ih =>
        intro h
        have h1 := h y (by simp)
        have h2 := ih (fun t ht => h t (by simp [ht]))
        simp only [Lib.joinTail, List.map_cons, List.flatten_cons, List.length_append, List.length_cons, List.length_nil] at h2 ⊢
        omega
    rw [Lib.join_cons, List.length_append]
    have h1 := h x (by simp)
    have h2 := hl r (fun t ht => h t (by simp [ht]))
    simp only [List.length_cons]
    omega
theorem join_more (l : List (List UInt8)) (k : Nat) (y : List UInt8) (h : l[k]? = some y) (hk : 0 < k) : Lib.join (l.take (k + 1)) [44] = Lib.join (l.take k) [44] ++ [44] ++ y := by
  cases l with
  | nil => simp at h
  | cons x r =>
    obtain ⟨j, rfl⟩ : ∃ j, k = j + 1 := ⟨k - 1, by omega⟩
    rw [List.take_succ_cons, List.take_succ_cons, Lib.join_cons, Lib.join_cons, Lib.joinTail_take_succ [44] r j y (by simpa using h)]
    simp
theorem join_first (l : List (List UInt8)) (y : List UInt8) (h : l[0]? = some y) : Lib.join (l.take 1) [44] = y := by
  cases l with
  | nil => simp at h
  | cons x r =>
    simp at h
    subst h
    simp [Lib.join_one]
theorem elT_short (xs : List Int) (hx : ∀ x ∈ xs, 0 ≤ x ∧ x ≤ 15) : ∀ t ∈ elT xs, t.length ≤ 2 := fun t ht => by
  obtain ⟨x, hm, rfl⟩ := List.mem_map.1 ht
  have := hx x hm
  exact itoa_small (by omega) (by omega)
theorem btL_short (xs : List Int) (hx : ∀ x ∈ xs, 0 ≤ x ∧ x ≤ 15) (k : Nat) (hk : xs.length ≤ 24) : (Lib.join ((elT xs).take k) [44]).length ≤ 72 := by
  have h := join_short ((elT xs).take k) (fun t ht => elT_short xs hx t (List.mem_of_mem_take ht))
  rw [List.length_take, elT_length] at h
  omega
theorem fmt_itoa (x : Int) (h0 : 0 ≤ x) (h1 : x < 100) (w : World) :
    Calls Tryd.prog 59 #[.int .i64 x, .int .i64 10] w fun e w' => e = .returned (.string ⟨(Lib.itoa x).toArray⟩) ∧ w = w' := by
  obtain ⟨k, rfl⟩ := Int.eq_ofNat_of_zero_le h0
  refine (Tryd.strconv_FormatInt_10_small k (by omega) w).mono ?_
  rintro e w' ⟨rfl, rfl⟩
  exact ⟨by rw [Lib.itoa, if_neg (by omega)]; rfl, rfl⟩
theorem infoSt0 : (Tryd.prog.info? 9).map (fun i => (i.zero, i.size, i.bytes)) = some (some (.string ⟨#[]⟩), 1, 16) := by kernel_rfl
/-- Texts as values. -/
def strV (l : List (List UInt8)) : List Value := l.map fun t => Value.string ⟨t.toArray⟩
theorem strV_set (l : List (List UInt8)) (n k : Nat) (y : List UInt8) (hl : l[k]? = some y) (hk : k < n) : (strV (l.take k) ++ List.replicate (n - k) (Value.string ⟨#[]⟩)).set k (.string ⟨y.toArray⟩) = strV (l.take (k + 1)) ++ List.replicate (n - (k + 1)) (Value.string ⟨#[]⟩) := by
  have hlk : k < l.length := (List.getElem?_eq_some_iff.1 hl).1
  have h1 : (strV (l.take k)).length = k := by simp [strV]; omega
  rw [List.set_append, if_neg (by omega), h1, Nat.sub_self, show n - k = (n - (k + 1)) + 1 by omega, List.replicate_succ, List.set_cons_zero, List.take_succ_eq_append_getElem hlk]
  have : l[k] = y := (List.getElem?_eq_some_iff.1 hl).2
  simp [strV, this]
set_option maxRecDepth 8000 in
set_option maxHeartbeats 1000000 in
theorem bearoffTextM_any (a : Option Addr) (n cap : Nat) (xs : List Int) (w : World) (hn : xs.length = n) (h1 : 1 ≤ n) (hle : n ≤ 24) (hx : ∀ x ∈ xs, 0 ≤ x ∧ x ≤ 15) (hr : IRow w a xs) :
    Calls Tryd.prog 36 #[.slice a n cap] w fun e w' => e = .returned (.string ⟨(btL xs).toArray⟩) ∧ Below w.heap.size w w' := by
  have hmk := run_make_row' (P := Tryd.prog) 58 9 (.string ⟨#[]⟩) 16 Tryd.underlying58 infoSt0 rfl .i64 .i64 n (by omega) (by omega)
  have R0 : VRow (w.alloc (.cells (madeCells #[.string ⟨#[]⟩] n) 9)) w.heap.size (strV ((elT xs).take 0) ++ List.replicate (n - 0) (.string ⟨#[]⟩)) 9 := by
    refine ⟨_, Blk.new w _ _, ?_, ?_⟩
    · rw [← Array.length_toList, toList_madeCells_one]; simp [strV]
    · rw [toList_madeCells_one]; simp [strV]
  have hb : Below w.heap.size w (w.alloc (.cells (madeCells #[.string ⟨#[]⟩] n) 9)) := (Below.refl _ _).alloc (Nat.le_refl _) _
  have hjl := btL_short xs hx n (by omega)
  have hel := elT_length xs
  have hget := elT_get xs
  have hfull : (elT xs).take n = elT xs := List.take_of_length_le (by omega)
  obtain ⟨E, hE⟩ : ∃ E, elT xs = E := ⟨_, rfl⟩
  unfold btL
  rw [hE] at R0 hjl hel hget hfull ⊢
  rw [hfull] at hjl
  have hnI : (n : Int) ≤ 24 := by omega
  have HN := Lib.hid hn
  have HX := Lib.hid hx
  have HG := Lib.hid hget
  have HJ := Lib.hid hjl
  have HEL := Lib.hid hel
  have HF := Lib.hid hfull
  clear hn hx hget hjl hel hfull hE
  go_enter Tryd.func36, Tryd.ntmps36
  go_wp2_with fail
  generalize (w.alloc (.cells (madeCells #[.string ⟨#[]⟩] n) 9)) = v0 at *
  go_loopg [11] n (fun m i wr => ∃ (W : World) (k : Nat), W = wr ∧ k ≤ n ∧ m = n - k ∧ i = .int .i64 k ∧ VRow W w.heap.size (strV (E.take k) ++ List.replicate (n - k) (.string ⟨#[]⟩)) 9 ∧ Below w.heap.size w W)
  case atStart => exact ⟨_, 0, rfl, by omega, by omega, rfl, R0, hb⟩
  case round =>
    clear R0 hb hmk
    obtain ⟨W, k, hW, hk, hm, rfl, R, hbel⟩ := hrel
    subst hW
    by_cases hlt : k < n
    · have hlt' : (k : Int) < (n : Int) := by omega
      have hk0 : (0 : Int) ≤ (k : Int) := by omega
      obtain ⟨b, o, rfl, hc⟩ := hr.below hbel k (by have := HN.out; omega)
      have hv := HX.out _ (getD_mem (xs := xs) (k := k) (by have := HN.out; omega))
      have hg := HG.out k (by have := HN.out; omega)
      obtain ⟨v, hve⟩ : ∃ v, xs.getD k 0 = v := ⟨_, rfl⟩
      rw [hve] at hc hv hg
      have hset := strV_set E n k _ hg hlt
      have hf := fun W => fmt_itoa v hv.1 (by omega) W
      obtain ⟨T, hT⟩ : ∃ T : ByteArray, ⟨(Lib.itoa v).toArray⟩ = T := ⟨_, rfl⟩
      rw [hT] at hf hset
      have hold : W.cell? ⟨w.heap.size, k, none⟩ = some (.string ⟨#[]⟩) := VRow.cell R k _ (by
        have h1 : (strV (E.take k)).length = k := by simp [strV]; have := HEL.out; have := HN.out; omega
        rw [List.getElem?_append_right (by omega), h1, Nat.sub_self, List.getElem?_replicate, if_pos (by omega)])
      have hfr := VRow.free R k
      have R2 := VRow.set R k (.string T)
      rw [hset] at R2
      have HR2 := Lib.hid R2
      have HFM := Lib.hid hf
      have HM := Lib.hid hm
      clear hf hset hg hve hv hT R R2 hm
      go_wp2_with (go_at_call 59; refine (HFM.out _).mono ?_; clear HFM; rintro e wq ⟨rfl, rfl⟩)
      go_roundg (n - (k + 1))
      case measure => have := HM.out; omega
      case rel => exact ⟨_, k + 1, rfl, by omega, rfl, by go_num, HR2.out, hbel.setCell (p := ⟨w.heap.size, k, none⟩) (Nat.le_refl _) _⟩
    · obtain rfl : k = n := by omega
      rw [HF.out, Nat.sub_self, List.replicate_zero, List.append_nil] at R
      have hbl := R.lt
      obtain ⟨BL, hBL⟩ : ∃ BL : List ByteArray, E.map (fun t => (⟨t.toArray⟩ : ByteArray)) = BL := ⟨_, rfl⟩
      have hBE : BL.map (·.data.toList) = E := by
        rw [← hBL, List.map_map]
        exact (List.map_congr_left (fun t _ => by simp)).trans (List.map_id E)
      have hBn : BL.length = k := by rw [← hBL, List.length_map, HEL.out, HN.out]
      have hcells : ∀ (j : Nat) x, BL[j]? = some x → W.cell? ⟨w.heap.size, 0 + j, none⟩ = some (.string x) := by
        intro j x hj
        rw [Nat.zero_add]
        refine VRow.cell R j _ ?_
        rw [← hBL, List.getElem?_map] at hj
        unfold strV
        rw [List.getElem?_map]
        cases hq : E[j]? with
        | none => rw [hq] at hj; simp at hj
        | some t => rw [hq] at hj; simp at hj ⊢; rw [← hj]
      have hJ := Tryd.strings_Join w.heap.size 0 k BL ⟨#[44]⟩ W hcells hbl (by omega) (by omega) (by rw [hBE]; have := HJ.out; show (Lib.join E [44]).length ≤ _; omega)
      rw [hBE, hBn] at hJ
      have hJ2 : (Lib.join E (⟨#[44]⟩ : ByteArray).data.toList) = Lib.join E [44] := rfl
      rw [hJ2] at hJ
      obtain ⟨X, hX⟩ : ∃ X : ByteArray, ⟨(Lib.join E [44]).toArray⟩ = X := ⟨_, rfl⟩
      rw [hX] at hJ
      have HXX := Lib.hid hX
      have HJJ := Lib.hid hJ
      have hlt' : ¬ (k : Int) < (k : Int) := by omega
      clear hJ hX hJ2 hcells hBn hBE hBL hm R hlt
      go_wp2_with (go_at_call 60; refine HJJ.out.mono ?_; clear HJJ; rintro e wq ⟨rfl, hbq⟩)
      go_ret
      exact ⟨by rw [HXX.out]; rfl, chain hbel hbq⟩
set_option maxHeartbeats 1000000 in
theorem bearoffText_any (p c h s : Int) (a : Option Addr) (n cap : Nat) (xs : List Int) (w : World) (hn : xs.length = n) (hle : n ≤ 1048576) (hr : IRow w a xs) :
    Calls Tryd.prog 12 #[.agg #[.int .i64 p, .int .i64 c, .int .i64 h, .int .i64 s], .slice a n cap] w fun e w' => e = .returned (.string ⟨(btT p c h s xs).toArray⟩) ∧ Below w.heap.size w w' := by
  have BV := Blk.new w #[.int .i64 p, .int .i64 c, .int .i64 h, .int .i64 s] 26
  have hb : Below w.heap.size w (w.alloc (.cells #[.int .i64 p, .int .i64 c, .int .i64 h, .int .i64 s] 26)) := (Below.refl _ _).alloc (Nat.le_refl _) _
  obtain ⟨x0, x1, x2, x3, xf, xl⟩ := BV.four
  have hC := fun W (r : IRow W a xs) => isBearoff_any p c h s a n cap xs W hn hle r
  replace hr := hr.below hb
  unfold btT
  cases z : okP p c h s xs with
  | false =>
    rw [z] at hC
    simp only [Bool.false_eq_true, if_false]
    have HC := Lib.hid hC
    clear hC z
    go_enter Tryd.func12, Tryd.ntmps12
    go_wp2_with (first | (go_at_call 35; refine (HC.out _ hr).mono ?_; rintro e wq ⟨rfl, hbq⟩; clear x0 x1 x2 x3 xf xl; replace BV := BV.below hbq; replace hr := hr.below hbq; replace hb := chain hb hbq; clear hbq; obtain ⟨x0, x1, x2, x3, xf, xl⟩ := BV.four))
    go_ret
    exact ⟨rfl, hb⟩
  | true =>
    have hok := okP_parts z
    have hT := fun W (r : IRow W a xs) => bearoffTextM_any a n cap xs W hn (by omega) (by omega) hok.2.2.1 r
    rw [z] at hC
    simp only [if_true]
    obtain ⟨X, hX⟩ : ∃ X : ByteArray, ⟨(btL xs).toArray⟩ = X := ⟨_, rfl⟩
    rw [hX] at hT ⊢
    have HC := Lib.hid hC
    have HT := Lib.hid hT
    clear hC hT z hX hok
    go_enter Tryd.func12, Tryd.ntmps12
    go_wp2_with (first | (go_at_call 35; refine (HC.out _ hr).mono ?_; rintro e wq ⟨rfl, hbq⟩; clear x0 x1 x2 x3 xf xl; replace BV := BV.below hbq; replace hr := hr.below hbq; replace hb := chain hb hbq; clear hbq; obtain ⟨x0, x1, x2, x3, xf, xl⟩ := BV.four) | (go_at_call 36; refine (HT.out _ hr).mono ?_; rintro e wq ⟨rfl, hbq⟩; clear x0 x1 x2 x3 xf xl; replace BV := BV.below hbq; replace hr := hr.below hbq; replace hb := chain hb hbq; clear hbq; obtain ⟨x0, x1, x2, x3, xf, xl⟩ := BV.four))
    go_ret
    exact ⟨rfl, hb⟩
set_option maxRecDepth 8000 in
set_option maxHeartbeats 1000000 in
theorem specBearoffText_any (p c h s : Int) (a : Option Addr) (n cap : Nat) (xs : List Int) (w : World) (hn : xs.length = n) (hle : n ≤ 1048576) (hr : IRow w a xs) :
    Calls Tryd.prog 9 #[.agg #[.int .i64 p, .int .i64 c, .int .i64 h, .int .i64 s], .slice a n cap] w fun e w' => e = .returned (.string ⟨(btT p c h s xs).toArray⟩) ∧ Below w.heap.size w w' := by
  have BV := Blk.new w #[.int .i64 p, .int .i64 c, .int .i64 h, .int .i64 s] 26
  have hb : Below w.heap.size w (w.alloc (.cells #[.int .i64 p, .int .i64 c, .int .i64 h, .int .i64 s] 26)) := (Below.refl _ _).alloc (Nat.le_refl _) _
  obtain ⟨x0, x1, x2, x3, xf, xl⟩ := BV.four
  have hC := fun W (r : IRow W a xs) => specIsBearoff_any p c h s a n cap xs W hn hle r
  replace hr := hr.below hb
  unfold btT
  cases z : okP p c h s xs with
  | false =>
    rw [z] at hC
    simp only [Bool.false_eq_true, if_false]
    have HC := Lib.hid hC
    clear hC z
    go_enter Tryd.func9, Tryd.ntmps9
    go_wp2_with fail
    clear x0 x1 x2 x3 xf xl
    generalize (w.alloc (.cells #[.int .i64 p, .int .i64 c, .int .i64 h, .int .i64 s] 26)) = v0 at *
    go_loopg [5, 6] 1 (fun m q i wr => v0 = wr ∧ q = .string ⟨#[]⟩ ∧ i = .int .i64 0)
    case atStart => exact ⟨rfl, rfl, rfl⟩
    case round =>
      obtain ⟨rfl, rfl, rfl⟩ := hrel
      obtain ⟨x0, x1, x2, x3, xf, xl⟩ := BV.four
      by_cases h0 : 0 < n
      · have h0' : (0 : Int) < (n : Int) := by omega
        go_wp2_with (first | (go_at_call 20; refine (HC.out _ hr).mono ?_; rintro e wq ⟨rfl, hbq⟩; clear x0 x1 x2 x3 xf xl; replace BV := BV.below hbq; replace hr := hr.below hbq; replace hb := chain hb hbq; clear hbq; obtain ⟨x0, x1, x2, x3, xf, xl⟩ := BV.four))
        go_ret
        exact ⟨rfl, hb⟩
      · have h0' : ¬ (0 : Int) < (n : Int) := by omega
        go_wp2_with fail
        go_ret
        exact ⟨rfl, hb⟩
  | true =>
    have hok := okP_parts z
    rw [z] at hC
    simp only [if_true]
    have hx := hok.2.2.1
    have h24 : n ≤ 24 := by omega
    have hjs := btL_short xs hx
    have hel := elT_length xs
    have hget := elT_get xs
    have hfull : (elT xs).take n = elT xs := List.take_of_length_le (by omega)
    unfold btL
    obtain ⟨E, hE⟩ : ∃ E, elT xs = E := ⟨_, rfl⟩
    rw [hE] at hjs hel hget hfull ⊢
    rw [← hfull]
    have hnI : (n : Int) ≤ 24 := by omega
    have hmo := join_more E
    have hfi := join_first E
    obtain ⟨F, hF⟩ : ∃ F : Nat → ByteArray, F = fun k => ⟨(Lib.join (E.take k) [44]).toArray⟩ := ⟨_, rfl⟩
    have hF0 : F 0 = ⟨#[]⟩ := by rw [hF]; simp [Lib.join_nil]
    have hFs : ∀ k, (F k).size ≤ 72 := fun k => by rw [hF]; exact hjs k (by omega)
    have hF1 : ∀ y, E[0]? = some y → F 1 = ⟨y.toArray⟩ := fun y q => by rw [hF]; simp only; rw [hfi y q]
    have hFm : ∀ k y, E[k]? = some y → 0 < k → F (k + 1) = F k ++ ⟨#[44]⟩ ++ ⟨y.toArray⟩ := fun k y q1 q2 => by
      rw [hF]
      simp only
      rw [hmo k y q1 q2]
      apply ByteArray.ext
      simp [ByteArray.data_append]
    have hgoal : (⟨(Lib.join (E.take n) [44]).toArray⟩ : ByteArray) = F n := by rw [hF]
    rw [hgoal]
    have HN := Lib.hid hn
    have HX := Lib.hid hx
    have HG := Lib.hid hget
    have HC := Lib.hid hC
    have HF0 := Lib.hid hF0
    have HFS := Lib.hid hFs
    have HF1 := Lib.hid hF1
    have HFM := Lib.hid hFm
    clear hC z hok hx hjs hel hget hfull hE hF hF0 hFs hF1 hFm hgoal hmo hfi hn
    go_enter Tryd.func9, Tryd.ntmps9
    go_wp2_with fail
    clear x0 x1 x2 x3 xf xl
    generalize (w.alloc (.cells #[.int .i64 p, .int .i64 c, .int .i64 h, .int .i64 s] 26)) = v0 at *
    go_loopg [5, 6] n (fun m q i wr => ∃ (W : World) (k : Nat), W = wr ∧ k ≤ n ∧ m = n - k ∧ i = .int .i64 k ∧ q = .string (F k) ∧ IRow W a xs ∧ Blk W w.heap.size #[.int .i64 p, .int .i64 c, .int .i64 h, .int .i64 s] 26 ∧ Below w.heap.size w W)
    case atStart => exact ⟨_, 0, rfl, by omega, by omega, rfl, by rw [HF0.out], hr, BV, hb⟩
    case round =>
      clear BV hb hr
      obtain ⟨W, k, hW, hk, hm, rfl, rfl, hr, BV, hb⟩ := hrel
      subst hW
      obtain ⟨x0, x1, x2, x3, xf, xl⟩ := BV.four
      by_cases hlt : k < n
      · have hlt' : (k : Int) < (n : Int) := by omega
        have hk0 : (0 : Int) ≤ (k : Int) := by omega
        have hv := HX.out _ (getD_mem (xs := xs) (k := k) (by have := HN.out; omega))
        have hg := HG.out k (by have := HN.out; omega)
        have hrow : ∀ W, IRow W a xs → ∃ b o, a = some ⟨b, o, none⟩ ∧ W.cell? ⟨b, o + k, none⟩ = some (.int .i64 (xs.getD k 0)) := fun W r => r k (by have := HN.out; omega)
        obtain ⟨v, hve⟩ : ∃ v, xs.getD k 0 = v := ⟨_, rfl⟩
        rw [hve] at hv hg hrow
        have hd := fun W => l09Decimal_any v W (by omega) (by omega)
        have hTs : (⟨(Lib.itoa v).toArray⟩ : ByteArray).size ≤ 2 := itoa_small hv.1 (by omega)
        obtain ⟨b, o, rfl, _⟩ := hrow _ hr
        have hcell : ∀ W, IRow W (some ⟨b, o, none⟩) xs → W.cell? ⟨b, o + k, none⟩ = some (.int .i64 v) := fun W r => by
          obtain ⟨b', o', e, hc⟩ := hrow W r
          simp at e
          obtain ⟨rfl, rfl⟩ := e
          exact hc
        have HCE := Lib.hid hcell
        have hFk := HFS.out k
        by_cases hkz : 0 < k
        · have hnx := HFM.out k _ hg hkz
          obtain ⟨T, hT⟩ : ∃ T : ByteArray, ⟨(Lib.itoa v).toArray⟩ = T := ⟨_, rfl⟩
          rw [hT] at hd hTs hnx
          obtain ⟨Fk, hFke⟩ : ∃ T : ByteArray, F k = T := ⟨_, rfl⟩
          rw [hFke] at hnx hFk ⊢
          obtain ⟨t1, e1, s1, k1⟩ := cat_rn (a := Fk) (b := ⟨#[44]⟩) (m := 72) (n := 1) hFk (by decide) (by omega)
          rw [← e1] at hnx
          obtain ⟨t2, e2, s2, k2⟩ := cat_rn (a := t1) (b := T) s1 hTs (by omega)
          rw [← e2] at hnx
          have HD := Lib.hid hd
          have HNX := Lib.hid hnx
          have HM := Lib.hid hm
          clear hd hg hve hv hT hnx e1 e2 s1 s2 hFke hFk hTs hrow hm hcell
          go_wp2_with (first | (go_at_call 20; refine (HC.out _ hr).mono ?_; rintro e wq ⟨rfl, hbq⟩; clear x0 x1 x2 x3 xf xl; replace BV := BV.below hbq; replace hr := hr.below hbq; replace hb := chain hb hbq; clear hbq; obtain ⟨x0, x1, x2, x3, xf, xl⟩ := BV.four; have hce := HCE.out _ hr) | (go_at_call 34; refine (HD.out _).mono ?_; rintro e wq ⟨rfl, hbq⟩; clear x0 x1 x2 x3 xf xl; replace BV := BV.below hbq; replace hr := hr.below hbq; replace hb := chain hb hbq; clear hbq))
          go_roundg (n - (k + 1))
          case measure => have := HM.out; omega
          case rel => exact ⟨_, k + 1, rfl, by omega, rfl, by go_num, by rw [HNX.out], hr, BV, hb⟩
        · obtain rfl : k = 0 := by omega
          have hnx := HF1.out _ hg
          rw [HF0.out]
          obtain ⟨T, hT⟩ : ∃ T : ByteArray, ⟨(Lib.itoa v).toArray⟩ = T := ⟨_, rfl⟩
          rw [hT] at hd hTs hnx
          obtain ⟨t2, e2, s2, k2⟩ := cat_rn (a := ⟨#[]⟩) (b := T) (m := 0) (n := 2) (by decide) hTs (by omega)
          have e3 : t2 = T := by rw [e2]; apply ByteArray.ext; simp [ByteArray.data_append]
          subst e3
          have HD := Lib.hid hd
          have HNX := Lib.hid hnx
          have HM := Lib.hid hm
          clear hd hg hve hv hT hnx e2 s2 hFk hTs hrow hm hcell
          go_wp2_with (first | (go_at_call 20; refine (HC.out _ hr).mono ?_; rintro e wq ⟨rfl, hbq⟩; clear x0 x1 x2 x3 xf xl; replace BV := BV.below hbq; replace hr := hr.below hbq; replace hb := chain hb hbq; clear hbq; obtain ⟨x0, x1, x2, x3, xf, xl⟩ := BV.four; have hce := HCE.out _ hr; rw [Nat.add_zero] at hce) | (go_at_call 34; refine (HD.out _).mono ?_; rintro e wq ⟨rfl, hbq⟩; clear x0 x1 x2 x3 xf xl; replace BV := BV.below hbq; replace hr := hr.below hbq; replace hb := chain hb hbq; clear hbq))
          go_roundg (n - (0 + 1))
          case measure => have := HM.out; omega
          case rel => exact ⟨_, 0 + 1, rfl, by omega, rfl, by go_num, by rw [HNX.out], hr, BV, hb⟩
      · obtain rfl : k = n := by omega
        have hlt' : ¬ (k : Int) < (k : Int) := by omega
        go_wp2_with fail
        go_ret
        exact ⟨rfl, hb⟩
end Go.Proofs.YtjbcbcoaoplllaaDoor
