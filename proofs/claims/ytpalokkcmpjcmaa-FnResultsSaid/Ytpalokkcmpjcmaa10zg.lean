/- Contracts of the law's helpers on lists of positions. -/
import Derived.Test.YtpalokkcmpjcmaaPos
import Derived.Test.Ytpalokkcmpjcmaa10w
import Derived.Test.YtpalokkcmpjcmaaSrc
import Derived.StillTailTactics
import Derived.Deep.LoopGhost
import Derived.BigQuiet
import Derived.Deep.QuietTactic
namespace Go.Proofs.Ytpalokkcmpjcmaa
open Go.ChangeShapes Go.WideShapes Go.ChangeAt Go.RowKit
set_option linter.unusedVariables false
set_option linter.unusedSimpArgs false
set_option maxRecDepth 4000

/-- A slice of positions, nil or not. -/
def LQ (w : World) (a : Option Addr) (l : List PQ) : Prop := (a = none ∧ l = []) ∨ ∃ g, a = some ⟨g, 0, none⟩ ∧ QRow w g l
theorem LQ.row {w : World} {a : Option Addr} {l : List PQ} (h : LQ w a l) (hl : 0 < l.length) : ∃ g, a = some ⟨g, 0, none⟩ ∧ QRow w g l := by
  rcases h with ⟨_, rfl⟩ | h
  · simp at hl
  · exact h
set_option maxHeartbeats 1000000 in
theorem eqInt64SS_same (a b : Option Addr) (N k1 k2 : Nat) (l m : List PQ) (w : World) (hl : l.length = N) (hm : m.length = N) (hN : N ≤ 1048576) (hlm : nmQ l = nmQ m) (h1 : LQ w a l) (h2 : LQ w b m) (hr1 : ∀ x ∈ l, Row w x.1 x.2.2 ∧ x.2.2.length ≤ 1048576) (hr2 : ∀ x ∈ m, Row w x.1 x.2.2) :
    Calls Try.prog 22 #[.slice a N k1, .slice b N k2] w fun e w' => e = .returned (.bool true) ∧ Below w.heap.size w w' := by
  have n0 : (N : Int) ≤ 1048576 := by omega
  have HL := Lib.hid hl
  have HM := Lib.hid hm
  clear hl hm
  go_enter Try.func22, Try.ntmps22
  go_wp2_with fail
  go_loopg [5] N (fun mm i wr => ∃ (W : World) (j : Nat), W = wr ∧ j ≤ N ∧ mm = N - j ∧ i = .int .i64 j ∧ Below w.heap.size w W)
  case atStart => exact ⟨w, 0, rfl, by omega, by omega, by go_num, Below.refl _ _⟩
  case round =>
    obtain ⟨wr, j, hW, hj, hmm, rfl, hb⟩ := hrel
    subst hW
    by_cases hlt : j < N
    · have j0 : (0 : Int) ≤ (j : Int) := by omega
      have j1 : (j : Int) < (N : Int) := by omega
      obtain ⟨g1, rfl, q1⟩ := h1.row (by rw [HL.out]; omega)
      obtain ⟨g2, rfl, q2⟩ := h2.row (by rw [HM.out]; omega)
      obtain ⟨⟨gx, kx, xs⟩, hx⟩ : ∃ x, l[j]? = some x := ⟨_, List.getElem?_eq_getElem (by rw [HL.out]; exact hlt)⟩
      obtain ⟨⟨gy, ky, zs⟩, hy⟩ : ∃ y, m[j]? = some y := ⟨_, List.getElem?_eq_getElem (by rw [HM.out]; exact hlt)⟩
      have hxy : xs = zs := by
        have e1 : (nmQ l)[j]? = some xs := by rw [List.getElem?_map, hx]; rfl
        have e2 : (nmQ m)[j]? = some zs := by rw [List.getElem?_map, hy]; rfl
        rw [hlm, e2] at e1
        exact (Option.some.inj e1).symm
      subst hxy
      have hxm := hr1 _ (List.mem_of_getElem? hx)
      have hym := hr2 _ (List.mem_of_getElem? hy)
      have u0 : CellIs wr g1 j (.slice (some ⟨gx, 0, none⟩) xs.length kx) := QRow.at (q1.below hb) j _ hx
      have u1 : CellIs wr g2 j (.slice (some ⟨gy, 0, none⟩) xs.length ky) := QRow.at (q2.below hb) j _ hy
      have rx : Row wr gx xs := hxm.1.below hb
      have ry : Row wr gy xs := Row.below hym hb
      have HE := Lib.hid (fun (W' : World) (p1 : Row W' gx xs) (p2 : Row W' gy xs) => eqInt64S_same (some ⟨gx, 0, none⟩) (some ⟨gy, 0, none⟩) xs.length kx ky xs W' rfl hxm.2 p1.irow p2.irow)
      clear hx hy hxm hym q1 q2
      go_wp2_with fail
      have hd_ : wr.drew.heap.size = wr.heap.size := rfl
      replace hb := hb.drew
      replace rx := rx.drew
      replace ry := ry.drew
      replace u0 := CellIs.drew u0
      replace u1 := CellIs.drew u1
      refine wp_region_held_drew (S := fun w' => w'.cell? ⟨g1, j, none⟩ = some (.slice (some ⟨gx, 0, none⟩) xs.length kx) ∧ w'.cell? ⟨g2, j, none⟩ = some (.slice (some ⟨gy, 0, none⟩) xs.length ky)) (by kernel_rfl) ⟨u0, u1⟩ (fun hHeld => ?_)
      clear hHeld
      generalize wr.drew = vd at *
      have hHeld : vd.cell? ⟨g1, j, none⟩ = some (.slice (some ⟨gx, 0, none⟩) xs.length kx) ∧ vd.cell? ⟨g2, j, none⟩ = some (.slice (some ⟨gy, 0, none⟩) xs.length ky) := ⟨u0, u1⟩
      refine wpAnyH_take (i := 0) (oi := { dst := some 17, op := _, type := _, pos := _, after := _, guard := _ }) (v := ?_) rfl (by kernel_rfl) (by kernel_rfl) (by kernel_rfl) (fun _ _ _ h => h) (Or.inl ⟨by rfl, ?_⟩) (by assumption) ?_
      rotate_left
      · intro w hSw
        (try dsimp only at hSw)
        go_simp
        (try (with_reducible rfl))
      try simp only [Act.put, List.setIfInBounds_toArray, List.set_cons_zero, List.set_cons_succ]
      refine wpAnyH_take (i := 1) (oi := { dst := some 18, op := _, type := _, pos := _, after := _, guard := _ }) (v := ?_) rfl (by kernel_rfl) (by kernel_rfl) (by kernel_rfl) (fun _ _ _ h => h) (Or.inl ⟨by rfl, ?_⟩) (by assumption) ?_
      rotate_left
      · intro w hSw
        (try dsimp only at hSw)
        go_simp
        (try (with_reducible rfl))
      try simp only [Act.put, List.setIfInBounds_toArray, List.set_cons_zero, List.set_cons_succ]
      refine wpAnyH_take (i := 2) (oi := { dst := some 19, op := _, type := _, pos := _, after := _, guard := _ }) (v := ?_) rfl (by kernel_rfl) (by kernel_rfl) (by kernel_rfl) (fun _ _ _ h => h) (Or.inl ⟨by rfl, ?_⟩) (by assumption) ?_
      rotate_left
      · intro w hSw
        (try dsimp only at hSw)
        go_simp
        (try (with_reducible rfl))
      try simp only [Act.put, List.setIfInBounds_toArray, List.set_cons_zero, List.set_cons_succ]
      refine wpAnyH_take (i := 3) (oi := { dst := some 20, op := _, type := _, pos := _, after := _, guard := _ }) (v := ?_) rfl (by kernel_rfl) (by kernel_rfl) (by kernel_rfl) (fun _ _ _ h => h) (Or.inl ⟨by rfl, ?_⟩) (by assumption) ?_
      rotate_left
      · intro w hSw
        (try dsimp only at hSw)
        go_simp
        (try (with_reducible rfl))
      try simp only [Act.put, List.setIfInBounds_toArray, List.set_cons_zero, List.set_cons_succ]
      refine wpAnyH_take (i := 4) (oi := { dst := some 21, op := _, type := _, pos := _, after := _, guard := _ }) (v := ?_) rfl (by kernel_rfl) (by kernel_rfl) (by kernel_rfl) (fun _ _ _ h => h) (Or.inl ⟨by rfl, ?_⟩) (by assumption) ?_
      rotate_left
      · intro w hSw
        (try dsimp only at hSw)
        go_simp
        (try (with_reducible rfl))
      try simp only [Act.put, List.setIfInBounds_toArray, List.set_cons_zero, List.set_cons_succ]
      refine wpAnyH_take (i := 5) (oi := { dst := some 22, op := _, type := _, pos := _, after := _, guard := _ }) (v := ?_) rfl (by kernel_rfl) (by kernel_rfl) (by kernel_rfl) (fun _ _ _ h => h) (Or.inl ⟨by rfl, ?_⟩) (by assumption) ?_
      rotate_left
      · intro w hSw
        (try dsimp only at hSw)
        go_simp
        (try (with_reducible rfl))
      try simp only [Act.put, List.setIfInBounds_toArray, List.set_cons_zero, List.set_cons_succ]
      refine wpAnyH_take (i := 6) (oi := { dst := some 23, op := _, type := _, pos := _, after := _, guard := _ }) (v := ?_) rfl (by kernel_rfl) (by kernel_rfl) (by kernel_rfl) (fun _ _ _ h => h) (Or.inl ⟨by rfl, ?_⟩) (by assumption) ?_
      rotate_left
      · intro w hSw
        (try dsimp only at hSw)
        go_simp
        (try (with_reducible rfl))
      try simp only [Act.put, List.setIfInBounds_toArray, List.set_cons_zero, List.set_cons_succ]
      refine wpAnyH_take (i := 7) (oi := { dst := some 24, op := _, type := _, pos := _, after := _, guard := _ }) (v := ?_) rfl (by kernel_rfl) (by kernel_rfl) (by kernel_rfl) (fun _ _ _ h => h) (Or.inl ⟨by rfl, ?_⟩) (by assumption) ?_
      rotate_left
      · intro w hSw
        (try dsimp only at hSw)
        go_simp
        (try (with_reducible rfl))
      try simp only [Act.put, List.setIfInBounds_toArray, List.set_cons_zero, List.set_cons_succ]
      refine wpAnyH_ready (rs := [8]) (by kernel_rfl) (by simp) ?_
      refine AllReadyH.cons (o := { dst := some 25, op := _, type := _, pos := _, after := _, guard := _ }) rfl (fun K hK => ?_) AllReadyH.nil
      go_simp
      refine (HE.out _ rx ry).mono ?_
      rintro e w5 ⟨rfl, hb5⟩
      replace u0 := CellIs.below u0 hb5
      replace u1 := CellIs.below u1 hb5
      replace hb := chain hb hb5
      clear hb5 rx ry
      (try go_wp2_with fail)
      refine hK.out _ _ ⟨u0, u1⟩ (fun hHeld => ?_)
      clear hK K
      try simp only [Act.put, List.setIfInBounds_toArray, List.set_cons_zero, List.set_cons_succ]
      refine wpAnyH_take (i := 9) (oi := { dst := some 26, op := _, type := _, pos := _, after := _, guard := _ }) (v := ?_) rfl (by kernel_rfl) (by kernel_rfl) (by kernel_rfl) (fun _ _ _ h => h) (Or.inl ⟨by rfl, ?_⟩) (by assumption) ?_
      rotate_left
      · intro w hSw
        (try dsimp only at hSw)
        go_simp
        (try (with_reducible rfl))
      try simp only [Act.put, List.setIfInBounds_toArray, List.set_cons_zero, List.set_cons_succ]
      refine wpAnyH_done (by kernel_rfl) ?_ _
      clear hHeld
      go_wp2
      go_roundg (N - (j + 1))
      case measure => omega
      case rel => exact ⟨_, j + 1, rfl, by omega, rfl, by go_num, hb⟩
    · obtain rfl : j = N := by omega
      go_wp2
      go_ret
      exact ⟨rfl, hb⟩
/-- The positions of a list marked with numbers from one on. -/
def mkQ : Int → List PQ → List PQ
  | _, [] => []
  | k, x :: l => (x.1, x.2.1, marks k x.2.2.length) :: mkQ (k + x.2.2.length) l
def szQ (l : List PQ) : Nat := (l.map fun x => x.2.2.length).sum
theorem mkQ_length : ∀ (l : List PQ) (k : Int), (mkQ k l).length = l.length
  | [], k => rfl
  | x :: l, k => by simp [mkQ, mkQ_length l]
theorem mkQ_app : ∀ (l : List PQ) (k : Int) (x : PQ), mkQ k (l ++ [x]) = mkQ k l ++ [(x.1, x.2.1, marks (k + szQ l) x.2.2.length)]
  | [], k, x => by simp [mkQ, szQ]
  | y :: l, k, x => by
    have ih := mkQ_app l (k + y.2.2.length) x
    simp only [List.cons_append, mkQ, ih, szQ, List.map_cons, List.sum_cons]
    rw [show k + (y.2.2.length : Int) + ((l.map fun x => x.2.2.length).sum : Nat) = k + ((y.2.2.length + (l.map fun x => x.2.2.length).sum : Nat) : Int) by omega]
theorem mkQ_cells : ∀ (l : List PQ) (k : Int), (mkQ k l).flatMap pqC = l.flatMap pqC
  | [], k => rfl
  | x :: l, k => by simp only [mkQ, List.flatMap_cons, mkQ_cells l]; simp [pqC, marks_length]
theorem mkQ_fst : ∀ (l : List PQ) (k : Int), (mkQ k l).map (fun x => x.1) = l.map (fun x => x.1)
  | [], k => rfl
  | x :: l, k => by simp [mkQ, mkQ_fst l]
theorem LQ.marked {w : World} {a : Option Addr} {l : List PQ} (h : LQ w a l) (k : Int) : LQ w a (mkQ k l) := by
  rcases h with ⟨h1, rfl⟩ | ⟨g, h1, h2⟩
  · exact .inl ⟨h1, rfl⟩
  · refine .inr ⟨g, h1, ?_⟩
    rw [QRow, mkQ_cells]
    exact h2
theorem mkQ_getElem {l : List PQ} {k : Int} {j : Nat} {x : PQ} (h : l[j]? = some x) : (mkQ k (l.take j) ++ l.drop j)[j]? = some x := by
  have hj := (List.getElem?_eq_some_iff.1 h).1
  rw [List.getElem?_append_right (by rw [mkQ_length, List.length_take]; omega), mkQ_length, List.length_take, show j - min j l.length = 0 by omega, List.getElem?_drop]
  simpa using h
set_option maxHeartbeats 1000000 in
theorem markInt64SS_any (lo hi : Nat) (a : Option Addr) (N k1 : Nat) (l : List PQ) (k : Int) (w : World) (hl : l.length = N) (hN : N ≤ 1048576) (k0 : 0 ≤ k) (kb : k + szQ l ≤ 1000000000) (h : LQ w a l) (hA : QAll lo hi w l) (hD : QDis l) (hlen : ∀ x ∈ l, x.2.2.length ≤ 1048576) (hne : ∀ g, a = some ⟨g, 0, none⟩ → ∀ x ∈ l, x.1 ≠ g) :
    Calls Try.prog 25 #[.slice a N k1, .int .i64 k] w fun e w' => e = .returned (.int .i64 (k + szQ l)) ∧ LQ w' a l ∧ QAll lo hi w' (mkQ k l) ∧ Same lo hi w w' := by
  have n0 : (N : Int) ≤ 1048576 := by omega
  have HL := Lib.hid hl
  have HLEN := Lib.hid hlen
  have HNE := Lib.hid hne
  have HD := Lib.hid hD
  clear hl hlen hne hD
  go_enter Try.func25, Try.ntmps25
  go_wp2_with fail
  go_loopg [1, 5] N (fun mm kv i wr => ∃ (W : World) (j : Nat), W = wr ∧ j ≤ N ∧ mm = N - j ∧ i = .int .i64 j ∧ kv = .int .i64 (k + szQ (l.take j)) ∧ LQ W a l ∧ QAll lo hi W (mkQ k (l.take j) ++ l.drop j) ∧ Same lo hi w W)
  case atStart => exact ⟨w, 0, rfl, by omega, by omega, by go_num, by simp [szQ], h, by simpa [mkQ] using hA, rfl, rfl, rfl, Nat.le_refl _, fun i hi _ => rfl⟩
  case round =>
    clear h hA
    obtain ⟨wr, j, hW, hj, hmm, rfl, rfl, h, hA, hS⟩ := hrel
    subst hW
    by_cases hlt : j < N
    · have j0 : (0 : Int) ≤ (j : Int) := by omega
      have j1 : (j : Int) < (N : Int) := by omega
      obtain ⟨g1, rfl, q1⟩ := h.row (by rw [HL.out]; omega)
      obtain ⟨⟨gx, kx, xs⟩, hx⟩ : ∃ x, l[j]? = some x := ⟨_, List.getElem?_eq_getElem (by rw [HL.out]; exact hlt)⟩
      have hxm := List.mem_of_getElem? hx
      have hxa := hA _ (List.mem_of_getElem? (mkQ_getElem hx))
      have hc := QRow.at q1 j _ hx
      have htk : l.take (j + 1) = l.take j ++ [(gx, kx, xs)] := by rw [List.take_add_one, hx]; rfl
      have hsz : szQ (l.take (j + 1)) = szQ (l.take j) + xs.length := by rw [htk]; simp [szQ]
      have hszl : szQ (l.take (j + 1)) ≤ szQ l := by
        have : szQ l = szQ (l.take (j + 1)) + szQ (l.drop (j + 1)) := by
          rw [szQ, szQ, szQ, ← List.sum_append_nat, ← List.map_append, List.take_append_drop]
        omega
      have hdr : l.drop j = (gx, kx, xs) :: l.drop (j + 1) := by
        have hjl : j < l.length := by rw [HL.out]; exact hlt
        rw [List.drop_eq_getElem_cons hjl]
        congr 1
        have := List.getElem?_eq_getElem hjl
        rw [hx] at this
        exact (Option.some.inj this).symm
      have hlx := HLEN.out _ hxm
      have hg1 := HNE.out g1 rfl _ hxm
      dsimp only at hxa hlx hg1 hc
      have hxa1 := hxa.1
      have hxa2 := hxa.2.1
      (try dsimp only at hxa1 hxa2)
      obtain ⟨K, hK⟩ : ∃ K, k + (szQ (l.take j) : Int) = K := ⟨_, rfl⟩
      rw [hK]
      have HMK := Lib.hid (markInt64S_any gx xs.length kx xs K wr rfl hlx (by omega) (by omega) hxa.2.2)
      have HK := Lib.hid hK
      have HSZ := Lib.hid hsz
      have hdis : ∀ y ∈ mkQ k (l.take j) ++ l.drop (j + 1), y.1 ≠ gx := by
        have hp := HD.out
        rw [← List.take_append_drop j l, hdr] at hp
        obtain ⟨p1, p2, p3⟩ := List.pairwise_append.1 hp
        intro y hy
        rcases List.mem_append.1 hy with hy | hy
        · have : y.1 ∈ (l.take j).map (fun x => x.1) := by rw [← mkQ_fst]; exact List.mem_map.2 ⟨y, hy, rfl⟩
          obtain ⟨z, hz, e⟩ := List.mem_map.1 this
          rw [← e]
          exact p3 z hz (gx, kx, xs) (by simp)
        · exact fun e => (List.pairwise_cons.1 p2).1 y hy e.symm
      have hmem : ∀ y ∈ mkQ k (l.take j) ++ l.drop (j + 1), QAt lo hi wr y := fun y hy => hA y (by
        rw [hdr]
        rcases List.mem_append.1 hy with hy | hy
        · exact List.mem_append_left _ hy
        · exact List.mem_append_right _ (by simp [hy]))
      have HDIS := Lib.hid hdis
      have HMEM := Lib.hid hmem
      have HTK := Lib.hid htk
      clear hx hxm hA hK hsz hdis hmem hdr htk
      go_wp2_with (go_at_call 24; refine (HMK.out).mono ?_; rintro e w5 ⟨rfl, R5, hg5⟩)
      go_roundg (N - (j + 1))
      case measure => omega
      case rel =>
        refine ⟨w5, j + 1, rfl, by omega, rfl, by go_num, ?_, .inr ⟨g1, rfl, q1.grown hg5 (fun e => hg1 e.symm)⟩, ?_, hg5.os.trans hS.os, hg5.tape.trans hS.tape, hg5.output.trans hS.output, Nat.le_trans hS.size hg5.size, fun i hi2 ho => (hg5.block i (Nat.lt_of_lt_of_le hi2 hS.size) (fun e => by cases e; omega)).trans (hS.block i hi2 ho)⟩
        · rw [HSZ.out, ← HK.out]
          congr 1
          omega
        · rw [HTK.out, mkQ_app, List.append_assoc]
          intro y hy
          rcases List.mem_append.1 hy with hy | hy
          · have := HMEM.out y (List.mem_append_left _ hy)
            exact ⟨this.1, this.2.1, this.2.2.grown hg5 (HDIS.out y (List.mem_append_left _ hy))⟩
          · rcases List.mem_cons.1 (by simpa using hy) with hy | hy
            · subst hy
              exact ⟨hxa.1, hxa.2.1, by dsimp only; rw [HK.out]; exact R5⟩
            · have := HMEM.out y (List.mem_append_right _ hy)
              exact ⟨this.1, this.2.1, this.2.2.grown hg5 (HDIS.out y (List.mem_append_right _ hy))⟩
    · obtain rfl : j = N := by omega
      have ht : l.take j = l := by rw [← HL.out, List.take_length]
      have hd : l.drop j = [] := List.drop_eq_nil_of_le (by rw [HL.out]; exact Nat.le_refl _)
      rw [ht, hd, List.append_nil] at hA
      rw [ht]
      clear ht hd
      go_wp2
      go_ret
      exact ⟨rfl, h, hA, hS⟩
set_option maxHeartbeats 1000000 in
theorem heldInt64SS_any (a : Option Addr) (N k1 : Nat) (l : List PQ) (k : Int) (w : World) (hl : l.length = N) (hN : N ≤ 1048576) (k0 : 0 ≤ k) (kb : k + szQ l ≤ 1000000000) (h : LQ w a l) (hA : ∀ x ∈ mkQ k l, Row w x.1 x.2.2) (hlen : ∀ x ∈ l, x.2.2.length ≤ 1048576) :
    Calls Try.prog 26 #[.slice a N k1, .int .i64 k] w fun e w' => e = .returned (.int .i64 (k + szQ l)) ∧ w = w' := by
  have n0 : (N : Int) ≤ 1048576 := by omega
  have HL := Lib.hid hl
  have HLEN := Lib.hid hlen
  have HA := Lib.hid hA
  clear hl hlen hA
  go_enter Try.func26, Try.ntmps26
  go_wp2_with fail
  go_loopg [1, 5] N (fun mm kv i wr => ∃ (j : Nat), w = wr ∧ j ≤ N ∧ mm = N - j ∧ i = .int .i64 j ∧ kv = .int .i64 (k + szQ (l.take j)))
  case atStart => exact ⟨0, rfl, by omega, by omega, by go_num, by simp [szQ]⟩
  case round =>
    obtain ⟨j, rfl, hj, hmm, rfl, rfl⟩ := hrel
    by_cases hlt : j < N
    · have j0 : (0 : Int) ≤ (j : Int) := by omega
      have j1 : (j : Int) < (N : Int) := by omega
      obtain ⟨g1, rfl, q1⟩ := h.row (by rw [HL.out]; omega)
      obtain ⟨⟨gx, kx, xs⟩, hx⟩ : ∃ x, l[j]? = some x := ⟨_, List.getElem?_eq_getElem (by rw [HL.out]; exact hlt)⟩
      have hxm := List.mem_of_getElem? hx
      have hc := QRow.at q1 j _ hx
      have htk : l.take (j + 1) = l.take j ++ [(gx, kx, xs)] := by rw [List.take_add_one, hx]; rfl
      have hsz : szQ (l.take (j + 1)) = szQ (l.take j) + xs.length := by rw [htk]; simp [szQ]
      have hszl : szQ (l.take (j + 1)) ≤ szQ l := by
        have : szQ l = szQ (l.take (j + 1)) + szQ (l.drop (j + 1)) := by
          rw [szQ, szQ, szQ, ← List.sum_append_nat, ← List.map_append, List.take_append_drop]
        omega
      have hlx := HLEN.out _ hxm
      have hrow : Row w gx (marks (k + szQ (l.take j)) xs.length) := by
        have hm : (gx, kx, marks (k + szQ (l.take j)) xs.length) ∈ mkQ k l := by
          have e : mkQ k (l.take (j + 1) ++ l.drop (j + 1)) = mkQ k l := by rw [List.take_append_drop]
          rw [← e]
          have app : ∀ (p q : List PQ) (z : PQ), z ∈ mkQ k p → z ∈ mkQ k (p ++ q) := by
            intro p q z hz
            have gen : ∀ (p : List PQ) (k : Int), z ∈ mkQ k p → z ∈ mkQ k (p ++ q) := by
              intro p
              induction p with
              | nil => intro k hz; simp [mkQ] at hz
              | cons y p ih =>
                intro k hz
                rw [List.cons_append, mkQ]
                rw [mkQ] at hz
                rcases List.mem_cons.1 hz with hz | hz
                · rw [hz]; exact List.mem_cons_self
                · exact List.mem_cons_of_mem _ (ih _ hz)
            exact gen p k hz
          refine app _ _ _ ?_
          rw [htk, mkQ_app]
          simp
        exact HA.out _ hm
      dsimp only at hlx hc
      obtain ⟨K, hK⟩ : ∃ K, k + (szQ (l.take j) : Int) = K := ⟨_, rfl⟩
      rw [hK] at hrow ⊢
      have HH := Lib.hid (heldInt64S_any (some ⟨gx, 0, none⟩) xs.length kx K w hlx (by omega) (by omega) hrow.irow)
      have HK := Lib.hid hK
      have HSZ := Lib.hid hsz
      have hnn : ¬ (K + (xs.length : Int) < 0) := by omega
      clear hx hxm hK hsz htk hrow
      go_wp2_with (go_at_call 27; refine (HH.out).mono ?_; rintro e w5 ⟨rfl, rfl⟩)
      go_roundg (N - (j + 1))
      case measure => omega
      case rel =>
        refine ⟨j + 1, rfl, by omega, rfl, by go_num, ?_⟩
        rw [HSZ.out, ← HK.out]
        congr 1
        omega
    · obtain rfl : j = N := by omega
      have ht : l.take j = l := by rw [← HL.out, List.take_length]
      rw [ht]
      clear ht
      go_wp2
      go_ret
      exact ⟨rfl, rfl⟩
end Go.Proofs.Ytpalokkcmpjcmaa
