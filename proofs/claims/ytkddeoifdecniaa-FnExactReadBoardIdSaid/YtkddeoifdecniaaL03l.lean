/- Contracts of chapter 3: letters, their numbers and bits, of the program and of its model. -/
import Derived.Test.YtkddeoifdecniaaLetM
import Derived.Test.YtkddeoifdecniaaL03i
import Derived.Test.YtkddeoifdecniaaShelf
namespace Go.Proofs.Ytkddeoifdecniaa
open Go.ChangeShapes Go.WideShapes Go.ChangeAt Go.RowKit
set_option linter.unusedVariables false
set_option linter.unusedSimpArgs false

theorem idx_any (b : UInt8) (w : World) : Calls Try.prog 104 #[.string ⟨letters.toArray⟩, .int .u8 (b.toNat : Int)] w fun e w' => e = .returned (.int .i64 (idx b)) ∧ w = w' :=
  (Try.strings_IndexByte ⟨letters.toArray⟩ (b.toNat : Int) w).mono fun e w' h => by
    obtain ⟨rfl, rfl⟩ := h
    refine ⟨?_, rfl⟩
    rw [show ((b.toNat : Int)).toNat.toUInt8 = b by simp]
    rfl
set_option maxRecDepth 4000 in
set_option maxHeartbeats 1000000 in
theorem hasOnlyIdBytes_any (s : ByteArray) (w : World) (hs : s.size ≤ 1048576) :
    Calls Try.prog 77 #[.string s] w fun e w' => e = .returned (.bool (onlyL s.data.toList)) ∧ w = w' := by
  obtain ⟨R, hR⟩ : ∃ R, onlyL s.data.toList = R := ⟨_, rfl⟩
  rw [hR]
  have HR := Lib.hid hR
  clear hR
  go_enter Try.func77, Try.ntmps77
  go_wp2_with fail
  go_loopg [6] s.size (fun m i wr => w = wr ∧ ∃ k : Nat, k ≤ s.size ∧ m = s.size - k ∧ i = .int .i64 k ∧ ∀ j (h : j < s.size), j < k → 0 ≤ idx s[j])
  case atStart => exact ⟨rfl, 0, by omega, by omega, rfl, fun j h hj => by omega⟩
  case round =>
    obtain ⟨rfl, k, hk, hm, rfl, hall⟩ := hrel
    have HA := Lib.hid hall
    have HM := Lib.hid hm
    clear hall hm
    by_cases hlt : k < s.size
    · have hlt' : (k : Int) < (s.size : Int) := by omega
      have hk0 : (0 : Int) ≤ (k : Int) := by omega
      have hi := fun W => idx_any s[k] W
      obtain ⟨u, hu⟩ : ∃ u, idx s[k] = u := ⟨_, rfl⟩
      rw [hu] at hi
      have HI := Lib.hid hi
      have HU := Lib.hid hu
      clear hi hu
      by_cases h0 : 0 ≤ u
      · have h0' : ¬ u < 0 := by omega
        go_wp2_with (go_at_call 104; refine (HI.out _).mono ?_; rintro e w2 ⟨rfl, rfl⟩)
        go_roundg (s.size - (k + 1))
        case measure => have := HM.out; omega
        case rel =>
          refine ⟨rfl, k + 1, by omega, rfl, by go_num, fun j h hj => ?_⟩
          by_cases e : j = k
          · subst e; rw [HU.out]; exact h0
          · exact HA.out j h (by omega)
      · have h0' : u < 0 := by omega
        have hno : R = false := by
          rw [← HR.out, onlyL, List.all_eq_false]
          exact ⟨s[k], by simp [ByteArray.getElem_eq_getElem_data], by rw [HU.out]; simpa using h0'⟩
        subst hno
        clear h0
        go_wp2_with (go_at_call 104; refine (HI.out _).mono ?_; rintro e w2 ⟨rfl, rfl⟩)
        go_ret
        exact ⟨rfl, rfl⟩
    · obtain rfl : k = s.size := by omega
      have hlt' : ¬ ((s.size : Int) < (s.size : Int)) := by omega
      have hyes : R = true := by
        rw [← HR.out, onlyL, List.all_eq_true]
        intro x hx
        obtain ⟨j, hj, rfl⟩ := List.mem_iff_getElem.1 hx
        have hj2 : j < s.size := by simpa using hj
        have := HA.out j hj2 hj2
        simpa [ByteArray.getElem_eq_getElem_data] using this
      subst hyes
      go_wp2
      go_ret
      exact ⟨rfl, rfl⟩
theorem and_one : ∀ x : Fin 64, bits BinOp.and IntKind.i64 ((x : Nat) : Int) 1 = (((x : Nat) % 2 : Nat) : Int) := by decide +kernel
theorem bits6_at (u k : Nat) (hk : k < 6) (h : u < 64) : (bits6 u)[k]'hk = bits BinOp.and IntKind.i64 ((u : Int) / 2 ^ (5 - k)) 1 := by
  have key : ∀ x : Nat, x < 64 → bits BinOp.and IntKind.i64 (x : Int) 1 = ((x % 2 : Nat) : Int) := fun x hx => and_one ⟨x, hx⟩
  obtain rfl | rfl | rfl | rfl | rfl | rfl : k = 0 ∨ k = 1 ∨ k = 2 ∨ k = 3 ∨ k = 4 ∨ k = 5 := by omega
  · rw [show ((u : Int) / 2 ^ (5 - 0)) = ((u / 32 : Nat) : Int) by simp, key _ (by omega)]; rfl
  · rw [show ((u : Int) / 2 ^ (5 - 1)) = ((u / 16 : Nat) : Int) by simp, key _ (by omega)]; rfl
  · rw [show ((u : Int) / 2 ^ (5 - 2)) = ((u / 8 : Nat) : Int) by simp, key _ (by omega)]; rfl
  · rw [show ((u : Int) / 2 ^ (5 - 3)) = ((u / 4 : Nat) : Int) by simp, key _ (by omega)]; rfl
  · rw [show ((u : Int) / 2 ^ (5 - 4)) = ((u / 2 : Nat) : Int) by simp, key _ (by omega)]; rfl
  · rw [show ((u : Int) / 2 ^ (5 - 5)) = (u : Int) by simp, key _ (by omega)]; rfl
set_option maxRecDepth 4000 in
set_option maxHeartbeats 1000000 in
theorem byteGroup_any (b : UInt8) (u : Nat) (w : World) (hu : idx b = (u : Int)) (h64 : u < 64) : Calls Try.prog 80 #[.int .u8 (b.toNat : Int)] w (RowGot (bits6 u) w) := by
  have hi := fun W => idx_any b W
  rw [hu] at hi
  have HI := Lib.hid hi
  have hmk : ∀ W : World, (Instr.makeSlice 26 (.int .i64 6) (.int .i64 6)).run Try.prog W = .ok (.slice (some ⟨W.heap.size, 0, none⟩) 6 6) (W.alloc (.cells (madeCells #[.int .i64 0] 6) 2)) := run_make_row' (P := Try.prog) 26 2 (.int .i64 0) 8 Try.underlying26 infoI64 rfl .i64 .i64 6 (by omega) (by omega)
  have huI : (u : Int) < 64 := by omega
  have hR0 := made_row w 6
  have hb0 : Below w.heap.size w (w.alloc (.cells (madeCells #[.int .i64 0] 6) 2)) := (Below.refl _ _).alloc (Nat.le_refl _) _
  clear hi hu
  go_enter Try.func80, Try.ntmps80
  go_wp2_with (go_at_call 104; refine (HI.out _).mono ?_; rintro e w2 ⟨rfl, rfl⟩)
  clear hmk
  generalize w.alloc (.cells (madeCells #[.int .i64 0] 6) 2) = v0 at *
  go_loopg [11] 6 (fun m i wr => ∃ k : Nat, k ≤ 6 ∧ m = 6 - k ∧ i = .int .i64 k ∧ Row wr w.heap.size ((bits6 u).take k ++ List.replicate (6 - k) 0) ∧ Below w.heap.size w wr)
  case atStart => exact ⟨0, by omega, by omega, rfl, by simpa using hR0, hb0⟩
  case round =>
    obtain ⟨k, hk, hm, rfl, hR, hbel⟩ := hrel
    clear hR0 hb0
    by_cases hlt : k < 6
    · have hf := hR.free k
      have hc := hR.cell k (by simp [bits6_length]; omega)
      have hk5 : (k : Int) ≤ 5 := by omega
      have hk6 : (k : Int) < 6 := by omega
      go_wp2_with fail
      go_roundg (6 - (k + 1))
      case measure => omega
      case rel =>
        refine ⟨k + 1, by omega, rfl, by go_num, ?_, hbel.setCell (Nat.le_refl _) _⟩
        have hst : ((bits6 u).take k ++ List.replicate (6 - k) 0).set k ((bits6 u)[k]'hlt) = (bits6 u).take (k + 1) ++ List.replicate (6 - (k + 1)) 0 := fill_step (bits6 u) 0 k hlt
        rw [← hst, bits6_at u k hlt h64]
        exact hR.set k _
    · obtain rfl : k = 6 := by omega
      rw [Nat.sub_self, List.replicate_zero, List.append_nil, List.take_of_length_le (by rw [bits6_length]; omega)] at hR
      go_wp2_with fail
      go_ret
      exact ⟨w.heap.size, 6, rfl, Nat.le_refl _, hR, hbel⟩
/-- What a slice of bytes reads, as numbers. -/
def URow (w : World) (a : Option Addr) (xs : List Int) : Prop :=
  ∀ i, i < xs.length → ∃ b o, a = some ⟨b, o, none⟩ ∧ w.cell? ⟨b, o + i, none⟩ = some (.int .u8 (xs.getD i 0))
theorem URow.below {w w' : World} {a : Option Addr} {xs : List Int} (h : URow w a xs) (hb : Below w.heap.size w w') : URow w' a xs := fun i hi => by
  obtain ⟨b, o, e, hc⟩ := h i hi
  exact ⟨b, o, e, by rw [hb.cell (p := ⟨b, o + i, none⟩) (World.block_lt_of_cell? w _ hc)]; exact hc⟩
set_option maxHeartbeats 1000000 in
theorem bitsOfBytes_any (a : Option Addr) (n cap : Nat) (xs : List Int) (f : Int → List Int) (w : World) (hn : xs.length = n) (hle : n ≤ 100) (hr : URow w a xs)
    (hf : ∀ x ∈ xs, 0 < (f x).length ∧ (f x).length ≤ 1000 ∧ ∀ W : World, Calls Try.prog 80 #[.int .u8 x] W (RowGot (f x) W)) :
    Calls Try.prog 79 #[.slice a n cap, .func (.func 80) #[] #[]] w (SliceGot (xs.map f).flatten w) := by
  subst hn
  have hmk := run_make_row' (P := Try.prog) 104 26 (.slice none 0 0) 24 Try.underlying104 infoSl rfl .i64 .i64 xs.length (by omega) (by omega)
  have hjoin := fun W (h : SPart W w.heap.size xs.length (xs.map f) xs.length) => joinBits_any w.heap.size xs.length xs.length (xs.map f) W (by simp) (by omega) (fun l hl => by
    obtain ⟨x, hx, rfl⟩ := List.mem_map.1 hl
    exact (hf x hx).2.1) h
  obtain ⟨out, hout⟩ : ∃ out, (xs.map f).flatten = out := ⟨_, rfl⟩
  rw [hout] at hjoin ⊢
  have HJ := Lib.hid hjoin
  have HF := Lib.hid hf
  clear hjoin hf hout
  have hS0 := SPart.new w xs.length (xs.map f)
  have hb0 : Below w.heap.size w (w.alloc (.cells (madeCells #[.slice none 0 0] xs.length) 26)) := (Below.refl _ _).alloc (Nat.le_refl _) _
  have HMK := Lib.hid hmk
  go_enter Try.func79, Try.ntmps79
  go_wp2_with fail
  clear hmk HMK
  generalize w.alloc (.cells (madeCells #[.slice none 0 0] xs.length) 26) = v0 at *
  go_loopg [13] xs.length (fun m i wr => ∃ k : Nat, k ≤ xs.length ∧ m = xs.length - k ∧ i = .int .i64 k ∧ SPart wr w.heap.size xs.length (xs.map f) k ∧ Below w.heap.size w wr)
  case atStart => exact ⟨0, by omega, by omega, rfl, hS0, hb0⟩
  case round =>
    clear hS0 hb0
    obtain ⟨k, hk, hm, rfl, hS, hbel⟩ := hrel
    by_cases hlt : k < xs.length
    · have hlt' : (k : Int) < (xs.length : Int) := by omega
      have hk0 : (0 : Int) ≤ (k : Int) := by omega
      obtain ⟨b, o, rfl, hc⟩ := hr.below hbel k hlt
      obtain ⟨x, hx⟩ : ∃ x, xs.getD k 0 = x := ⟨_, rfl⟩
      have hmem : x ∈ xs := hx ▸ getD_mem hlt
      rw [hx] at hc
      have hG := (HF.out x hmem).2.2
      have HG := Lib.hid hG
      have HX := Lib.hid hx
      have HM := Lib.hid hm
      have hGl := hS.lt
      clear hG hx hmem hm
      go_wp2_with fail
      refine (HG.out _).mono ?_
      rintro e w1 ⟨g, c, rfl, hg, hR, hb1⟩
      replace hS := hS.below hb1
      have hgG : w.heap.size < g := by omega
      obtain ⟨old, hold⟩ := hS.cell hlt
      have hfr := hS.free
      go_wp2_with fail
      go_roundg (xs.length - (k + 1))
      case measure => have := HM.out; omega
      case rel => exact ⟨k + 1, by omega, rfl, by go_num, hS.put hlt (by omega) (by rw [List.getD_map' hlt, HX.out]) hR, (chain hbel hb1).setCell (Nat.le_refl _) _⟩
    · obtain rfl : k = xs.length := by omega
      have hlt' : ¬ ((xs.length : Int) < (xs.length : Int)) := by omega
      go_wp2_with fail
      refine (HJ.out _ hS).mono ?_
      rintro e w1 ⟨ga, gk, rfl, hO, hb1⟩
      go_wp2
      go_ret
      exact ⟨ga, gk, rfl, hO.mono hbel.size (Nat.le_refl _), chain hbel hb1⟩
set_option maxRecDepth 4000 in
set_option maxHeartbeats 1000000 in
theorem l03Letter_any (b : UInt8) (w : World) : Calls Try.prog 86 #[.int .u8 (b.toNat : Int)] w fun e w' => e = .returned (.int .i64 (idx b)) ∧ w = w' := by
  have hlz : (⟨letters.toArray⟩ : ByteArray).size = 64 := rfl
  have hat := fun u h => letter_at u h
  obtain ⟨L, hL⟩ : ∃ L : ByteArray, ⟨letters.toArray⟩ = L := ⟨_, rfl⟩
  have hlet := fun W => l03Letters_any W
  rw [hL] at hlet hlz
  have hat2 : ∀ u (h : u < L.size), L[u]'h = letters.getD u 0 := by
    subst hL
    exact hat
  obtain ⟨R, hR⟩ : ∃ R, idx b = R := ⟨_, rfl⟩
  rw [hR]
  have HR := Lib.hid hR
  have HLET := Lib.hid hlet
  have HAT := Lib.hid hat2
  have hlzI : 64 ≤ (L.size : Int) := by omega
  have hlzN : 64 ≤ L.size := by omega
  clear hat hat2 hL hlet hR hlz
  go_enter Try.func86, Try.ntmps86
  go_wp2_with fail
  go_loopg [3] 64 (fun m i wr => w = wr ∧ ∃ k : Nat, k ≤ 64 ∧ m = 64 - k ∧ i = .int .i64 k ∧ ∀ j, j < k → letters.getD j 0 ≠ b)
  case atStart => exact ⟨rfl, 0, by omega, by omega, rfl, fun j hj => by omega⟩
  case round =>
    obtain ⟨rfl, k, hk, hm, rfl, hall⟩ := hrel
    have HA := Lib.hid hall
    have HM := Lib.hid hm
    clear hall hm
    by_cases hlt : k < 64
    · have hlt' : (k : Int) < 64 := by omega
      have hk0 : (0 : Int) ≤ (k : Int) := by omega
      have hkL : (k : Int) < (L.size : Int) := by omega
      have hkN : k < L.size := by omega
      have hv := HAT.out k hkN
      obtain ⟨v, hvv⟩ : ∃ v : UInt8, letters.getD k 0 = v := ⟨_, rfl⟩
      rw [hvv] at hv
      have HV := Lib.hid hvv
      clear hvv
      by_cases he : v = b
      · subst he
        have hres : R = (k : Int) := by
          rw [← HR.out]
          rcases idx_spec v with ⟨_, h2⟩ | ⟨u, hu, h1, h2, h3⟩
          · exact absurd HV.out (h2 k hlt)
          · rw [h1]
            rcases Nat.lt_trichotomy u k with q | q | q
            · exact absurd h2 (HA.out u q)
            · rw [q]
            · exact absurd HV.out (h3 k q)
        subst hres
        go_wp2_with (go_at_call 83; refine (HLET.out _).mono ?_; rintro e w2 ⟨rfl, rfl⟩)
        go_ret
        exact ⟨rfl, rfl⟩
      · have hne : ((v.toNat : Int) == (b.toNat : Int)) = false := by
          rw [beq_eq_false_iff_ne]
          intro e
          exact he (UInt8.toNat_inj.1 (by omega))
        have hne2 : (v.toNat == b.toNat) = false := by
          rw [beq_eq_false_iff_ne]
          intro e
          exact he (UInt8.toNat_inj.1 e)
        have HE := Lib.hid he
        clear he
        go_wp2_with (go_at_call 83; refine (HLET.out _).mono ?_; rintro e w2 ⟨rfl, rfl⟩)
        go_roundg (64 - (k + 1))
        case measure => have := HM.out; omega
        case rel =>
          refine ⟨rfl, k + 1, by omega, rfl, by go_num, fun j hj => ?_⟩
          by_cases e : j = k
          · subst e; rw [HV.out]; exact HE.out
          · exact HA.out j (by omega)
    · obtain rfl : k = 64 := by omega
      have hres : R = -1 := by
        rw [← HR.out]
        rcases idx_spec b with ⟨h1, _⟩ | ⟨u, hu, h1, h2, h3⟩
        · exact h1
        · exact absurd h2 (HA.out u hu)
      subst hres
      go_wp2_with fail
      go_ret
      exact ⟨rfl, rfl⟩
end Go.Proofs.Ytkddeoifdecniaa
