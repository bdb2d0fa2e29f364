/- Texts of a proof, laid together. -/
import Derived.Test.YtciljbnailobgaaGreatV01
import Derived.Deep.QuietTactic
import Derived.Deep.RegionHeld3
import Derived.Outline
import Derived.IntWalk
import Derived.Deep.LoopGhost
import Derived.RegionTactic
import Derived.Deep.RegionWith
import Derived.Test.YtciljbnailobgaaGreatV02
namespace Go.Proofs.YtciljbnailobgaaGreat
open Go.ChangeShapes Go.WideShapes Go.ChangeAt Go.RowKit
set_option linter.unusedVariables false
set_option linter.unusedSimpArgs false
def CodeIn (B : Nat) (w : World) (a : Option Addr) (len : Nat) : Prop :=
  ∀ i, i < len → ∃ b o n, a = some ⟨b, o, none⟩ ∧ b < B ∧ w.cell? ⟨b, o + i, none⟩ = some (.int .u8 n) ∧ 0 ≤ n ∧ n ≤ 255
def Src (B : Nat) (w : World) (g : Nat) (a : Option Addr) (len cap : Nat) : Prop :=
  ∃ (k : Nat) (s : Int), Blk w g #[.slice a len cap, .int .i64 k, .int .i64 s] 87 ∧ k ≤ len ∧ 0 ≤ s ∧ s ≤ 2147483646 ∧ B ≤ g ∧ len ≤ 1048576 ∧ CodeIn B w a len
theorem CodeIn.below {B : Nat} {w w' : World} {a : Option Addr} {len : Nat} (h : CodeIn B w a len) (hb : Below B w w') : CodeIn B w' a len := fun i hi => by
  obtain ⟨b, o, n, e, hl, hc, h1, h2⟩ := h i hi
  exact ⟨b, o, n, e, hl, by rw [hb.cell (p := ⟨b, o + i, none⟩) hl]; exact hc, h1, h2⟩
theorem Blk.three {w : World} {g : Nat} {v0 v1 v2 : Value} {t : TypeId} (h : Blk w g #[v0, v1, v2] t) :
    w.cell? ⟨g, 0, none⟩ = some v0 ∧ w.cell? ⟨g, 1, none⟩ = some v1 ∧ w.cell? ⟨g, 2, none⟩ = some v2 ∧ (∀ i, w.frozen? ⟨g, i, none⟩ = false) ∧ g < w.heap.size :=
  ⟨by simpa using h.cell 0, by simpa using h.cell 1, by simpa using h.cell 2, fun i => h.free i, h.lt⟩
def NextPost (B g : Nat) (a : Option Addr) (len cap : Nat) (n : Int) (w : World) (e : Ending) (w' : World) : Prop :=
  ∃ r : Int, e = .returned (.int .i64 r) ∧ 0 ≤ r ∧ (r < n ∨ r = 0) ∧ Src B w' g a len cap ∧ w.grownBy w' (some g)
theorem src_step {B g : Nat} {a : Option Addr} {len cap : Nat} {w W : World} {k : Nat} {s' : Int} (hB : Blk W g #[.slice a len cap, .int .i64 ((k + 1 : Nat) : Int), .int .i64 s'] 87) (hG : w.grownBy W (some g))
    (hk : k < len) (p0 : 0 ≤ s') (p1 : s' ≤ 2147483646) (hBg : B ≤ g) (cl : g < w.heap.size) (hlen : len ≤ 1048576) (hcode : CodeIn B w a len) : Src B W g a len cap :=
  ⟨k + 1, s', hB, by omega, p0, p1, hBg, hlen, hcode.below (below_of_grown hG (by omega) hBg)⟩
theorem blk_step {g : Nat} {a : Option Addr} {len cap : Nat} {w : World} {k : Nat} {s s' : Int} (hB : Blk w g #[.slice a len cap, .int .i64 k, .int .i64 s] 87) (m : Nat) :
    Blk (((w.setCell ⟨g, 2, none⟩ (.int .i64 s')).drewN m).setCell ⟨g, 1, none⟩ (.int .i64 ((k : Int) + 1))) g #[.slice a len cap, .int .i64 ((k + 1 : Nat) : Int), .int .i64 s'] 87 := by
  have := ((hB.set (i := 2) (.int .i64 s')).drewN m).set (i := 1) (.int .i64 ((k : Int) + 1))
  simpa using this
set_option maxHeartbeats 1000000 in
theorem next_any (B g : Nat) (a : Option Addr) (len cap : Nat) (n : Int) (w : World) (hS : Src B w g a len cap) (hn : n ≤ 1000000000000) :
    Calls Tryz.prog 44 #[.pointer (some ⟨g, 0, none⟩), .int .i64 n] w (NextPost B g a len cap n w) := by
  by_cases h1 : n ≤ 1
  · go_enter Tryz.func44, Tryz.ntmps44
    go_wp2
    go_ret
    exact ⟨0, rfl, by omega, .inr rfl, hS, grown_refl _ _⟩
  · obtain ⟨k, s, hB, hk, s0, s1, hBg, hlen, hcode⟩ := hS
    obtain ⟨c0, c1, c2, cf, cl⟩ := hB.three
    obtain ⟨s', hs'⟩ : ∃ s' : Int, (s * 48271 + 17) % 2147483647 = s' := ⟨_, rfl⟩
    have p0 : 0 ≤ s' := by omega
    have p1 : s' ≤ 2147483646 := by omega
    by_cases hat : k < len
    · obtain ⟨b, o, z, rfl, hbB, hz, z0, z1⟩ := hcode k hat
      have hat' : decide ((k : Int) < (len : Int)) = true := by simp; omega
      have hlt' : (k : Int) < (len : Int) := by omega
      have hkk : (0 : Int) ≤ (k : Int) := by omega
      have hne : b ≠ g := by omega
      have hne' : g ≠ b := by omega
      by_cases h256 : n ≤ 256
      · have f1 : decide (n ≤ 256) = true := by simp; omega
        by_cases hev : (k + 1) % 2 = 0
        · have f2 : (((k : Int) + 1) % 2 == 0) = true := by rw [beq_iff_eq]; omega
          go_enter Tryz.func44, Tryz.ntmps44
          go_wp2_with fail
          go_quiet (fail)
          go_wp2_with fail
          go_quiet (fail)
          go_wp2_with fail
          go_quiet (fail)
          go_wp2
          go_ret
          refine ⟨_, rfl, Int.emod_nonneg _ (by omega), .inl (Int.emod_lt_of_pos _ (by omega)), src_step ((blk_step hB _).drewN _) (grown_drewN (grown_set (grown_drewN (grown_set (grown_refl w _)) _)) _) hat p0 p1 hBg cl hlen hcode, grown_drewN (grown_set (grown_drewN (grown_set (grown_refl w _)) _)) _⟩
        · have f2 : (((k : Int) + 1) % 2 == 0) = false := by rw [beq_eq_false_iff_ne]; omega
          go_enter Tryz.func44, Tryz.ntmps44
          go_wp2_with fail
          go_quiet (fail)
          go_wp2_with fail
          go_quiet (fail)
          go_wp2
          go_ret
          refine ⟨_, rfl, Int.emod_nonneg _ (by omega), .inl (Int.emod_lt_of_pos _ (by omega)), src_step (blk_step hB _) (grown_set (grown_drewN (grown_set (grown_refl w _)) _)) hat p0 p1 hBg cl hlen hcode, grown_set (grown_drewN (grown_set (grown_refl w _)) _)⟩
      · have f1 : decide (n ≤ 256) = false := by simp; omega
        go_enter Tryz.func44, Tryz.ntmps44
        go_wp2_with fail
        go_quiet (fail)
        go_wp2_with fail
        go_quiet (fail)
        go_wp2
        go_ret
        refine ⟨_, rfl, Int.emod_nonneg _ (by omega), .inl (Int.emod_lt_of_pos _ (by omega)), src_step (blk_step hB _) (grown_set (grown_drewN (grown_set (grown_refl w _)) _)) hat p0 p1 hBg cl hlen hcode, grown_set (grown_drewN (grown_set (grown_refl w _)) _)⟩
    · have hat' : decide ((k : Int) < (len : Int)) = false := by simp; omega
      have hlt' : (len : Int) ≤ (k : Int) := by omega
      go_enter Tryz.func44, Tryz.ntmps44
      go_wp2_with fail
      go_quiet (fail)
      go_wp2
      go_ret
      have hG : w.grownBy ((w.setCell ⟨g, 2, none⟩ (.int .i64 s')).drewN nq) (some g) := grown_drewN (grown_set (grown_refl w _)) nq
      refine ⟨s' / 11 % n, rfl, Int.emod_nonneg _ (by omega), .inl (Int.emod_lt_of_pos _ (by omega)), ⟨k, s', ?_, by omega, p0, p1, hBg, hlen, hcode.below (below_of_grown hG (by omega) hBg)⟩, hG⟩
      simpa using (hB.set (i := 2) (.int .i64 s')).drewN nq
def FromPost (B : Nat) (a : Option Addr) (len cap : Nat) (w : World) (e : Ending) (w' : World) : Prop :=
  ∃ g, e = .returned (.pointer (some ⟨g, 0, none⟩)) ∧ w.heap.size ≤ g ∧ Src B w' g a len cap ∧ Below w.heap.size w w'
def fromAt (B : Nat) (a : Option Addr) (len cap : Nat) (w : World) (m : Nat) (i : Value) (wr : World) : Prop :=
  ∃ (k : Nat) (s : Int), k ≤ len ∧ m = len - k ∧ i = .int .i64 k ∧ Blk wr w.heap.size #[.slice a len cap, .int .i64 0, .int .i64 s] 87 ∧ 0 ≤ s ∧ s ≤ 2147483646 ∧ Below w.heap.size w wr
set_option maxHeartbeats 1000000 in
theorem from_any (B : Nat) (a : Option Addr) (len cap : Nat) (w : World) (hB : B ≤ w.heap.size) (hlen : len ≤ 1048576) (hcode : CodeIn B w a len) :
    Calls Tryz.prog 20 #[.slice a len cap] w (FromPost B a len cap w) := by
  go_enter Tryz.func20, Tryz.ntmps20
  go_wp2
  go_loopg [4] len (fun m i wr => fromAt B a len cap w m i wr)
  case atStart => exact ⟨0, 24157, by omega, by omega, rfl, Blk.new w _ _, by omega, by omega, (Below.refl _ _).alloc (Nat.le_refl _) _⟩
  case round =>
    obtain ⟨k, s, hk, hm, rfl, hS, s0, s1, hb⟩ := hrel
    obtain ⟨c0, c1, c2, cf, cl⟩ := hS.three
    have hc1 := hcode.below (hb.mono hB)
    obtain ⟨s', hs'⟩ : ∃ s' : Int, s' = s := ⟨_, rfl⟩
    by_cases hlt : k < len
    · have f1 : decide ((k : Int) < (len : Int)) = true := by simp; omega
      have hlt' : (k : Int) < (len : Int) := by omega
      have hkk : (0 : Int) ≤ (k : Int) := by omega
      by_cases h64 : k < 64
      · have f2 : decide ((k : Int) < 64) = true := by simp; omega
        obtain ⟨b, o, z, rfl, hbB, hz, z0, z1⟩ := hc1 k hlt
        clear hs' hc1
        go_wp2_with fail
        go_region
        go_wp2
        go_roundg (len - (k + 1))
        case measure => omega
        case rel => exact ⟨k + 1, (s * 43 + z) % 2147483647, by omega, rfl, by go_num, (by simpa using (hS.set (i := 2) (.int .i64 ((s * 43 + z) % 2147483647))).drew), by omega, by omega, (hb.setCell (Nat.le_refl _) _).drew⟩
      · have f2 : decide ((k : Int) < 64) = false := by simp; omega
        clear hs' hc1
        go_wp2
        go_ret
        exact ⟨w.heap.size, rfl, Nat.le_refl _, ⟨0, s, hS, by omega, s0, s1, hB, hlen, hcode.below (hb.mono hB)⟩, hb⟩
    · have f1 : decide ((k : Int) < (len : Int)) = false := by simp; omega
      clear hs' hc1
      go_wp2
      go_ret
      exact ⟨w.heap.size, rfl, Nat.le_refl _, ⟨0, s, hS, by omega, s0, s1, hB, hlen, hcode.below (hb.mono hB)⟩, hb⟩
theorem specFull_any (w : World) :
    Calls Tryz.prog 97 #[] w fun e w' => e = .returned (.agg #[.int .i64 24, .int .i64 15, .int .i64 6, .int .i64 6]) ∧ Below w.heap.size w w' := by
  go_enter Tryz.func97, Tryz.ntmps97
  go_wp2
  refine bodyPost_ret (v := .agg #[.int .i64 24, .int .i64 15, .int .i64 6, .int .i64 6]) (by simp [results, Tryz.results97, go_sem]) rfl ⟨rfl, ?_⟩
  first | exact (Below.refl _ _).alloc (Nat.le_refl _) _ | exact ((Below.refl _ _).alloc (Nat.le_refl _) _).alloc (by simp <;> omega) _
def VarPost (B g : Nat) (a : Option Addr) (len cap : Nat) (w : World) (e : Ending) (w' : World) : Prop :=
  ∃ p c h s : Int, e = .returned (.agg #[.int .i64 p, .int .i64 c, .int .i64 h, .int .i64 s]) ∧ (-1000 ≤ p ∧ p ≤ 1000) ∧ (-1000 ≤ c ∧ c ≤ 1000) ∧ (-1000 ≤ h ∧ h ≤ 1001) ∧ (-1000 ≤ s ∧ s ≤ 1000) ∧ Src B w' g a len cap ∧ w.grownBy w' (some g)
def ValPost (B g : Nat) (a : Option Addr) (len cap : Nat) (w : World) (e : Ending) (w' : World) : Prop :=
  ∃ p c h s : Int, e = .returned (.agg #[.int .i64 p, .int .i64 c, .int .i64 h, .int .i64 s]) ∧ (2 ≤ p ∧ p ≤ 24) ∧ (1 ≤ c ∧ c ≤ 15) ∧ (1 ≤ h ∧ h ≤ p) ∧ (1 ≤ s ∧ s ≤ 6) ∧ Src B w' g a len cap ∧ w.grownBy w' (some g)
theorem Src.lt {B g : Nat} {a : Option Addr} {len cap : Nat} {w : World} (h : Src B w g a len cap) : g < w.heap.size := by
  obtain ⟨k, s, hB, _⟩ := h; exact hB.lt
theorem Src.base {B g : Nat} {a : Option Addr} {len cap : Nat} {w : World} (h : Src B w g a len cap) : B ≤ g := by
  obtain ⟨k, s, _, _, _, _, hB, _⟩ := h; exact hB
theorem Src.alloc {B g : Nat} {a : Option Addr} {len cap : Nat} {w : World} (h : Src B w g a len cap) (o : Obj) : Src B (w.alloc o) g a len cap := by
  have hl := h.lt
  obtain ⟨k, s, hB, h1, h2, h3, h4, h5, h6⟩ := h
  exact ⟨k, s, hB.alloc o, h1, h2, h3, h4, h5, h6.below ((Below.refl B w).alloc (by omega) o)⟩
theorem Src.drew {B g : Nat} {a : Option Addr} {len cap : Nat} {w : World} (h : Src B w g a len cap) : Src B w.drew g a len cap := by
  obtain ⟨k, s, hB, h1, h2, h3, h4, h5, h6⟩ := h
  exact ⟨k, s, hB.drew, h1, h2, h3, h4, h5, h6.below (Below.refl B w).drew⟩
theorem Src.below {B g : Nat} {a : Option Addr} {len cap : Nat} {w w' : World} (h : Src B w g a len cap) (hb : Below w.heap.size w w') : Src B w' g a len cap := by
  have hl := h.lt
  obtain ⟨k, s, hB, h1, h2, h3, h4, h5, h6⟩ := h
  exact ⟨k, s, hB.below hb, h1, h2, h3, h4, h5, h6.below (hb.mono (by omega))⟩
theorem grown_new {w w1 : World} {g g' o : Nat} {v : Value} (h : w.grownBy w1 (some g)) (hn : w.heap.size ≤ g') : w.grownBy (w1.setCell ⟨g', o, none⟩ v) (some g) := by
  have hb := Below.setCell (Below.refl g' w1) (p := ⟨g', o, none⟩) (Nat.le_refl _) v
  refine ⟨hb.os.trans h.os, hb.tape.trans h.tape, hb.output.trans h.output, Nat.le_trans h.size hb.size, fun i hi hr => ?_⟩
  rw [Below.heap_setCell w1 ⟨g', o, none⟩ v i (fun e => by simp only at e; omega)]
  exact h.block i hi hr
theorem Src.set {B g g' o : Nat} {a : Option Addr} {len cap : Nat} {w : World} {v : Value} (h : Src B w g a len cap) (hn : g' ≠ g) (hB : B ≤ g') : Src B (w.setCell ⟨g', o, none⟩ v) g a len cap := by
  obtain ⟨k, s, hBk, h1, h2, h3, h4, h5, h6⟩ := h
  refine ⟨k, s, ?_, h1, h2, h3, h4, h5, h6.below ((Below.refl B w).setCell hB v)⟩
  exact (Below.heap_setCell w ⟨g', o, none⟩ v g (fun e => hn e.symm)).trans hBk
set_option maxHeartbeats 1000000 in
theorem drawSmall_any (B g : Nat) (a : Option Addr) (len cap : Nat) (w : World) (hS : Src B w g a len cap) :
    Calls Tryz.prog 45 #[.pointer (some ⟨g, 0, none⟩)] w (ValPost B g a len cap w) := by
  have hl := hS.lt
  have hBg := hS.base
  go_enter Tryz.func45, Tryz.ntmps45
  go_wp2_with fail
  have B0 := Blk.new w #[.int .i64 0, .int .i64 0, .int .i64 0, .int .i64 0] 25
  have hG : w.grownBy (w.alloc (.cells #[.int .i64 0, .int .i64 0, .int .i64 0, .int .i64 0] 25)) (some g) := World.grownBy_alloc w _ _
  refine (next_any B g a len cap 5 _ (hS.alloc _) (by omega)).mono ?_
  rintro e w1 ⟨r1, rfl, q1, u1, hS, hg⟩
  replace B0 := (B0).grown hg (by omega)
  replace hG := grown_trans (hG) hg
  clear hg
  go_wp2_with fail
  refine (next_any B g a len cap 3 _ hS (by omega)).mono ?_
  rintro e w2 ⟨r2, rfl, q2, u2, hS, hg⟩
  replace B0 := (B0).grown hg (by omega)
  replace hG := grown_trans (hG) hg
  clear hg
  go_wp2_with fail
  refine (next_any B g a len cap 3 _ hS (by omega)).mono ?_
  rintro e w3 ⟨r3, rfl, q3, u3, hS, hg⟩
  replace B0 := (B0).grown hg (by omega)
  replace hG := grown_trans (hG) hg
  clear hg
  have hB3 := B0
  have Bv := Blk.new w3 #[.int .i64 (2 + r1), .int .i64 (1 + r2), .int .i64 0, .int .i64 (1 + r3)] 25
  have hz3 := hG.size
  have hl3 := hS.lt
  go_wp2_with fail
  refine (next_any B g a len cap (2 + r1) _ (hS.alloc _) (by omega)).mono ?_
  rintro e w4 ⟨r4, rfl, q4, u4, hS, hg⟩
  replace B0 := (B0.alloc _).grown hg (by omega)
  replace Bv := (Bv).grown hg (by omega)
  replace hG := grown_trans (grown_alloc hG _) hg
  clear hg
  have hz4 := B0.lt
  have hz5 : w.heap.size < w3.heap.size := by have := hB3.lt; omega
  have hne : w3.heap.size ≠ w.heap.size := by omega
  have hne' : w.heap.size ≠ w3.heap.size := by omega
  obtain ⟨y0, y1, y2, y3, yf, yl⟩ := B0.four
  obtain ⟨x0, x1, x2, x3, xf, xl⟩ := Bv.four
  go_wp2_with fail
  refine bodyPost_ret (v := .agg #[.int .i64 (2 + r1), .int .i64 (1 + r2), .int .i64 (1 + r4), .int .i64 (1 + r3)]) (by simp [results, Tryz.results45, go_sem, y0, y1, y2, y3]) rfl ?_
  exact ⟨_, _, _, _, rfl, by omega, by omega, by omega, by omega, ((((hS.set (by omega) (by omega)).set (by omega) (by omega)).set (by omega) (by omega)).set (by omega) (by omega)).set (by omega) (by omega), grown_new (grown_new (grown_new (grown_new (grown_new hG (by omega)) (Nat.le_refl _)) (Nat.le_refl _)) (Nat.le_refl _)) (Nat.le_refl _)⟩
set_option maxHeartbeats 1000000 in
theorem drawValid_any (B g : Nat) (a : Option Addr) (len cap : Nat) (w : World) (hS : Src B w g a len cap) :
    Calls Tryz.prog 68 #[.pointer (some ⟨g, 0, none⟩)] w (ValPost B g a len cap w) := by
  have hl := hS.lt
  have hBg := hS.base
  go_enter Tryz.func68, Tryz.ntmps68
  go_wp2_with fail
  have B0 := Blk.new w #[.int .i64 0, .int .i64 0, .int .i64 0, .int .i64 0] 25
  have hG : w.grownBy (w.alloc (.cells #[.int .i64 0, .int .i64 0, .int .i64 0, .int .i64 0] 25)) (some g) := World.grownBy_alloc w _ _
  refine (next_any B g a len cap 4 _ (hS.alloc _) (by omega)).mono ?_
  rintro e w1 ⟨r1, rfl, q1, u1, hS, hg⟩
  replace B0 := (B0).grown hg (by omega)
  replace hG := grown_trans (hG) hg
  clear hg
  rcases (by omega : r1 = 0 ∨ r1 = 1 ∨ 2 ≤ r1) with rfl | rfl | hr
  · go_wp2_with fail
    refine (specFull_any _).mono ?_
    rintro e w2 ⟨rfl, hb2⟩
    replace B0 := B0.below hb2
    replace hS := hS.below hb2
    replace hG := grown_trans hG (grown_of_below hb2 _)
    clear hb2
    obtain ⟨y0, y1, y2, y3, yf, yl⟩ := B0.four
    go_wp2_with fail
    refine bodyPost_ret (v := .agg #[.int .i64 (24), .int .i64 (15), .int .i64 (6), .int .i64 (6)]) (by simp [results, Tryz.results68, go_sem, y0, y1, y2, y3]) rfl ?_
    exact ⟨_, _, _, _, rfl, by omega, by omega, by omega, by omega, (((hS.set (by omega) (by omega)).set (by omega) (by omega)).set (by omega) (by omega)).set (by omega) (by omega), grown_new (grown_new (grown_new (grown_new hG (Nat.le_refl _)) (Nat.le_refl _)) (Nat.le_refl _)) (Nat.le_refl _)⟩
  · go_wp2_with fail
    refine (next_any B g a len cap 21 _ hS (by omega)).mono ?_
    rintro e w2 ⟨r2, rfl, q2, u2, hS, hg⟩
    replace B0 := (B0).grown hg (by omega)
    replace hG := grown_trans (hG) hg
    clear hg
    go_wp2_with fail
    refine (next_any B g a len cap 15 _ hS (by omega)).mono ?_
    rintro e w3 ⟨r3, rfl, q3, u3, hS, hg⟩
    replace B0 := (B0).grown hg (by omega)
    replace hG := grown_trans (hG) hg
    clear hg
    go_wp2_with fail
    refine (next_any B g a len cap 6 _ hS (by omega)).mono ?_
    rintro e w4 ⟨r4, rfl, q4, u4, hS, hg⟩
    replace B0 := (B0).grown hg (by omega)
    replace hG := grown_trans (hG) hg
    clear hg
    have hB3 := B0
    have Bv := Blk.new w4 #[.int .i64 (4 + r2), .int .i64 (1 + r3), .int .i64 0, .int .i64 (1 + r4)] 25
    have hz3 := hG.size
    have hl3 := hS.lt
    go_wp2_with fail
    refine (next_any B g a len cap ((4 + r2) / 2) _ (hS.alloc _) (by omega)).mono ?_
    rintro e w5 ⟨r5, rfl, q5, u5, hS, hg⟩
    replace B0 := (B0.alloc _).grown hg (by omega)
    replace Bv := (Bv).grown hg (by omega)
    replace hG := grown_trans (grown_alloc hG _) hg
    clear hg
    have hz4 := B0.lt
    have hz5 : w.heap.size < w4.heap.size := by have := hB3.lt; omega
    have hne : w4.heap.size ≠ w.heap.size := by omega
    have hne' : w.heap.size ≠ w4.heap.size := by omega
    obtain ⟨y0, y1, y2, y3, yf, yl⟩ := B0.four
    obtain ⟨x0, x1, x2, x3, xf, xl⟩ := Bv.four
    go_wp2_with fail
    refine bodyPost_ret (v := .agg #[.int .i64 (4 + r2), .int .i64 (1 + r3), .int .i64 (1 + r5), .int .i64 (1 + r4)]) (by simp [results, Tryz.results68, go_sem, y0, y1, y2, y3]) rfl ?_
    exact ⟨_, _, _, _, rfl, by omega, by omega, by omega, by omega, ((((hS.set (by omega) (by omega)).set (by omega) (by omega)).set (by omega) (by omega)).set (by omega) (by omega)).set (by omega) (by omega), grown_new (grown_new (grown_new (grown_new (grown_new hG (by omega)) (Nat.le_refl _)) (Nat.le_refl _)) (Nat.le_refl _)) (Nat.le_refl _)⟩
  · have f0 : (r1 == 0) = false := by rw [beq_eq_false_iff_ne]; omega
    have f1 : (r1 == 1) = false := by rw [beq_eq_false_iff_ne]; omega
    go_wp2_with fail
    refine (drawSmall_any B g a len cap _ hS).mono ?_
    rintro e w2 ⟨p, c, h, s, rfl, bp, bc, bh, bs, hS, hg⟩
    replace B0 := B0.grown hg (by omega)
    replace hG := grown_trans hG hg
    clear hg
    obtain ⟨y0, y1, y2, y3, yf, yl⟩ := B0.four
    go_wp2_with fail
    refine bodyPost_ret (v := .agg #[.int .i64 (p), .int .i64 (c), .int .i64 (h), .int .i64 (s)]) (by simp [results, Tryz.results68, go_sem, y0, y1, y2, y3]) rfl ?_
    exact ⟨_, _, _, _, rfl, by omega, by omega, by omega, by omega, (((hS.set (by omega) (by omega)).set (by omega) (by omega)).set (by omega) (by omega)).set (by omega) (by omega), grown_new (grown_new (grown_new (grown_new hG (Nat.le_refl _)) (Nat.le_refl _)) (Nat.le_refl _)) (Nat.le_refl _)⟩
set_option maxHeartbeats 1000000 in
theorem drawAny_any (B g : Nat) (a : Option Addr) (len cap : Nat) (w : World) (hS : Src B w g a len cap) :
    Calls Tryz.prog 70 #[.pointer (some ⟨g, 0, none⟩)] w (VarPost B g a len cap w) := by
  have hl := hS.lt
  have hBg := hS.base
  go_enter Tryz.func70, Tryz.ntmps70
  go_wp2_with fail
  have B0 := Blk.new w #[.int .i64 0, .int .i64 0, .int .i64 0, .int .i64 0] 25
  have hG : w.grownBy (w.alloc (.cells #[.int .i64 0, .int .i64 0, .int .i64 0, .int .i64 0] 25)) (some g) := World.grownBy_alloc w _ _
  refine (drawValid_any B g a len cap _ (hS.alloc _)).mono ?_
  rintro e w1 ⟨p, c, h, s, rfl, bp, bc, bh, bs, hS, hg⟩
  replace B0 := B0.grown hg (by omega)
  replace hG := grown_trans hG hg
  clear hg
  have Bv := Blk.new w1 #[.int .i64 p, .int .i64 c, .int .i64 h, .int .i64 s] 25
  have hz1 := B0.lt
  have hl1 := hS.lt
  go_wp2_with fail
  refine (next_any B g a len cap 40 _ (hS.alloc _) (by omega)).mono ?_
  rintro e w2 ⟨r2, rfl, q2, u2, hS, hg⟩
  replace B0 := (B0.alloc _).grown hg (by omega)
  replace Bv := (Bv).grown hg (by omega)
  replace hG := grown_trans (grown_alloc hG _) hg
  clear hg
  rcases (by omega : r2 = 0 ∨ r2 = 1 ∨ r2 = 2 ∨ r2 = 3 ∨ 4 ≤ r2) with rfl | rfl | rfl | rfl | hr
  · have Ba := Blk.new w2 #[.int .i64 1, .int .i64 25, .int .i64 (-1), .int .i64 24] 2
    have hl2 := hS.lt
    have hv2 := Bv.lt
    have h02 := B0.lt
    go_wp2_with fail
    refine (next_any B g a len cap 4 _ (hS.alloc _) (by omega)).mono ?_
    rintro e w3 ⟨r3, rfl, q3, u3, hS, hg⟩
    replace B0 := (B0.alloc _).grown hg (by omega)
    replace Bv := (Bv.alloc _).grown hg (by omega)
    replace Ba := (Ba).grown hg (by omega)
    replace hG := grown_trans (grown_alloc hG _) hg
    clear hg
    obtain ⟨z0, z1, z2, z3, zf, zl⟩ := Ba.four
    rcases (by omega : r3 = 0 ∨ r3 = 1 ∨ r3 = 2 ∨ r3 = 3) with rfl | rfl | rfl | rfl
    · skip
      have hne : w1.heap.size ≠ w.heap.size := by omega
      have hne' : w.heap.size ≠ w1.heap.size := by omega
      obtain ⟨y0, y1, y2, y3, yf, yl⟩ := B0.four
      obtain ⟨x0, x1, x2, x3, xf, xl⟩ := Bv.four
      go_wp2_with fail
      refine bodyPost_ret (v := .agg #[.int .i64 (1), .int .i64 (c), .int .i64 (h), .int .i64 (s)]) (by simp [results, Tryz.results70, go_sem, y0, y1, y2, y3]) rfl ?_
      exact ⟨_, _, _, _, rfl, by omega, by omega, by omega, by omega, (((((hS.set (by omega) (by omega)).set (by omega) (by omega)).set (by omega) (by omega)).set (by omega) (by omega)).set (by omega) (by omega)), (grown_new (grown_new (grown_new (grown_new (grown_new hG (by omega)) (by omega)) (by omega)) (by omega)) (by omega))⟩
    · skip
      have hne : w1.heap.size ≠ w.heap.size := by omega
      have hne' : w.heap.size ≠ w1.heap.size := by omega
      obtain ⟨y0, y1, y2, y3, yf, yl⟩ := B0.four
      obtain ⟨x0, x1, x2, x3, xf, xl⟩ := Bv.four
      go_wp2_with fail
      refine bodyPost_ret (v := .agg #[.int .i64 (25), .int .i64 (c), .int .i64 (h), .int .i64 (s)]) (by simp [results, Tryz.results70, go_sem, y0, y1, y2, y3]) rfl ?_
      exact ⟨_, _, _, _, rfl, by omega, by omega, by omega, by omega, (((((hS.set (by omega) (by omega)).set (by omega) (by omega)).set (by omega) (by omega)).set (by omega) (by omega)).set (by omega) (by omega)), (grown_new (grown_new (grown_new (grown_new (grown_new hG (by omega)) (by omega)) (by omega)) (by omega)) (by omega))⟩
    · skip
      have hne : w1.heap.size ≠ w.heap.size := by omega
      have hne' : w.heap.size ≠ w1.heap.size := by omega
      obtain ⟨y0, y1, y2, y3, yf, yl⟩ := B0.four
      obtain ⟨x0, x1, x2, x3, xf, xl⟩ := Bv.four
      go_wp2_with fail
      refine bodyPost_ret (v := .agg #[.int .i64 (-1), .int .i64 (c), .int .i64 (h), .int .i64 (s)]) (by simp [results, Tryz.results70, go_sem, y0, y1, y2, y3]) rfl ?_
      exact ⟨_, _, _, _, rfl, by omega, by omega, by omega, by omega, (((((hS.set (by omega) (by omega)).set (by omega) (by omega)).set (by omega) (by omega)).set (by omega) (by omega)).set (by omega) (by omega)), (grown_new (grown_new (grown_new (grown_new (grown_new hG (by omega)) (by omega)) (by omega)) (by omega)) (by omega))⟩
    · skip
      have hne : w1.heap.size ≠ w.heap.size := by omega
      have hne' : w.heap.size ≠ w1.heap.size := by omega
      obtain ⟨y0, y1, y2, y3, yf, yl⟩ := B0.four
      obtain ⟨x0, x1, x2, x3, xf, xl⟩ := Bv.four
      go_wp2_with fail
      refine bodyPost_ret (v := .agg #[.int .i64 (24), .int .i64 (c), .int .i64 (h), .int .i64 (s)]) (by simp [results, Tryz.results70, go_sem, y0, y1, y2, y3]) rfl ?_
      exact ⟨_, _, _, _, rfl, by omega, by omega, by omega, by omega, (((((hS.set (by omega) (by omega)).set (by omega) (by omega)).set (by omega) (by omega)).set (by omega) (by omega)).set (by omega) (by omega)), (grown_new (grown_new (grown_new (grown_new (grown_new hG (by omega)) (by omega)) (by omega)) (by omega)) (by omega))⟩
  · go_wp2_with fail
    refine (next_any B g a len cap 2 _ hS (by omega)).mono ?_
    rintro e w3 ⟨r3, rfl, q3, u3, hS, hg⟩
    replace B0 := (B0).grown hg (by omega)
    replace Bv := (Bv).grown hg (by omega)
    replace hG := grown_trans (hG) hg
    clear hg
    have hne : w1.heap.size ≠ w.heap.size := by omega
    have hne' : w.heap.size ≠ w1.heap.size := by omega
    obtain ⟨y0, y1, y2, y3, yf, yl⟩ := B0.four
    obtain ⟨x0, x1, x2, x3, xf, xl⟩ := Bv.four
    go_wp2_with fail
    refine bodyPost_ret (v := .agg #[.int .i64 (p), .int .i64 (16 * r3), .int .i64 (h), .int .i64 (s)]) (by simp [results, Tryz.results70, go_sem, y0, y1, y2, y3]) rfl ?_
    exact ⟨_, _, _, _, rfl, by omega, by omega, by omega, by omega, (((((hS.set (by omega) (by omega)).set (by omega) (by omega)).set (by omega) (by omega)).set (by omega) (by omega)).set (by omega) (by omega)), (grown_new (grown_new (grown_new (grown_new (grown_new hG (by omega)) (by omega)) (by omega)) (by omega)) (by omega))⟩
  · skip
    have hne : w1.heap.size ≠ w.heap.size := by omega
    have hne' : w.heap.size ≠ w1.heap.size := by omega
    obtain ⟨y0, y1, y2, y3, yf, yl⟩ := B0.four
    obtain ⟨x0, x1, x2, x3, xf, xl⟩ := Bv.four
    go_wp2_with fail
    refine bodyPost_ret (v := .agg #[.int .i64 (p), .int .i64 (c), .int .i64 (p + 1), .int .i64 (s)]) (by simp [results, Tryz.results70, go_sem, y0, y1, y2, y3]) rfl ?_
    exact ⟨_, _, _, _, rfl, by omega, by omega, by omega, by omega, (((((hS.set (by omega) (by omega)).set (by omega) (by omega)).set (by omega) (by omega)).set (by omega) (by omega)).set (by omega) (by omega)), (grown_new (grown_new (grown_new (grown_new (grown_new hG (by omega)) (by omega)) (by omega)) (by omega)) (by omega))⟩
  · go_wp2_with fail
    refine (next_any B g a len cap 2 _ hS (by omega)).mono ?_
    rintro e w3 ⟨r3, rfl, q3, u3, hS, hg⟩
    replace B0 := (B0).grown hg (by omega)
    replace Bv := (Bv).grown hg (by omega)
    replace hG := grown_trans (hG) hg
    clear hg
    have hne : w1.heap.size ≠ w.heap.size := by omega
    have hne' : w.heap.size ≠ w1.heap.size := by omega
    obtain ⟨y0, y1, y2, y3, yf, yl⟩ := B0.four
    obtain ⟨x0, x1, x2, x3, xf, xl⟩ := Bv.four
    go_wp2_with fail
    refine bodyPost_ret (v := .agg #[.int .i64 (p), .int .i64 (c), .int .i64 (h), .int .i64 (7 * r3)]) (by simp [results, Tryz.results70, go_sem, y0, y1, y2, y3]) rfl ?_
    exact ⟨_, _, _, _, rfl, by omega, by omega, by omega, by omega, (((((hS.set (by omega) (by omega)).set (by omega) (by omega)).set (by omega) (by omega)).set (by omega) (by omega)).set (by omega) (by omega)), (grown_new (grown_new (grown_new (grown_new (grown_new hG (by omega)) (by omega)) (by omega)) (by omega)) (by omega))⟩
  · have f0 : (r2 == 0) = false := by rw [beq_eq_false_iff_ne]; omega
    have f1 : (r2 == 1) = false := by rw [beq_eq_false_iff_ne]; omega
    have f2 : (r2 == 2) = false := by rw [beq_eq_false_iff_ne]; omega
    have f3 : (r2 == 3) = false := by rw [beq_eq_false_iff_ne]; omega
    have hne : w1.heap.size ≠ w.heap.size := by omega
    have hne' : w.heap.size ≠ w1.heap.size := by omega
    obtain ⟨y0, y1, y2, y3, yf, yl⟩ := B0.four
    obtain ⟨x0, x1, x2, x3, xf, xl⟩ := Bv.four
    go_wp2_with fail
    refine bodyPost_ret (v := .agg #[.int .i64 (p), .int .i64 (c), .int .i64 (h), .int .i64 (s)]) (by simp [results, Tryz.results70, go_sem, y0, y1, y2, y3]) rfl ?_
    exact ⟨_, _, _, _, rfl, by omega, by omega, by omega, by omega, ((((hS.set (by omega) (by omega)).set (by omega) (by omega)).set (by omega) (by omega)).set (by omega) (by omega)), (grown_new (grown_new (grown_new (grown_new hG (by omega)) (by omega)) (by omega)) (by omega))⟩
end Go.Proofs.YtciljbnailobgaaGreat
namespace Go.Proofs.YtciljbnailobgaaGreat
open Go.ChangeShapes Go.WideShapes Go.ChangeAt Go.RowKit
set_option linter.unusedVariables false
set_option linter.unusedSimpArgs false
set_option maxRecDepth 4000
def startL (p c h s : Int) : List Int :=
  if p = 24 ∧ c = 15 ∧ h = 6 ∧ s = 6 then ((((List.replicate 25 (0 : Int)).set 5 5).set 7 3).set 12 5).set 23 2
  else ((List.replicate (p.toNat + 1) (0 : Int)).set (p - 1).toNat (c.tdiv 2)).set (p.tdiv 2 - 1).toNat (c - c.tdiv 2)
theorem startL_length (p c h s : Int) : (startL p c h s).length = p.toNat + 1 := by
  unfold startL
  split
  · rename_i g
    obtain ⟨rfl, _⟩ := g
    simp
  · simp
theorem heldVRow {w W w2 : World} {p c h s : Int} {G : Nat} {L : List Int} (hS : W.cell? ⟨w.heap.size, 0, none⟩ = some (.int .i64 p) ∧ W.cell? ⟨w.heap.size, 1, none⟩ = some (.int .i64 c) ∧ W.cell? ⟨w.heap.size, 2, none⟩ = some (.int .i64 h) ∧ W.cell? ⟨w.heap.size, 3, none⟩ = some (.int .i64 s) ∧ Below w.heap.size w W ∧ w.heap.size < W.heap.size ∧ Row W G L) (hb : Below W.heap.size W w2) : w2.cell? ⟨w.heap.size, 0, none⟩ = some (.int .i64 p) ∧ w2.cell? ⟨w.heap.size, 1, none⟩ = some (.int .i64 c) ∧ w2.cell? ⟨w.heap.size, 2, none⟩ = some (.int .i64 h) ∧ w2.cell? ⟨w.heap.size, 3, none⟩ = some (.int .i64 s) ∧ Below w.heap.size w w2 ∧ w.heap.size < w2.heap.size ∧ Row w2 G L := by
  obtain ⟨h0, h1, h2, h3, h4, h5, h6⟩ := hS
  obtain ⟨hc, _⟩ := bcell hb
  exact ⟨by rw [hc _ _ h5]; exact h0, by rw [hc _ _ h5]; exact h1, by rw [hc _ _ h5]; exact h2, by rw [hc _ _ h5]; exact h3, chain h4 hb, Nat.lt_of_lt_of_le h5 hb.size, h6.below hb⟩
set_option maxHeartbeats 1000000 in
theorem l02Empty_any (P : Nat) (c h s : Int) (w : World) (p1 : P ≤ 24) : Calls Tryz.prog 69 #[.agg #[.int .i64 (P : Int), .int .i64 c, .int .i64 h, .int .i64 s]] w (Copied (List.replicate (P + 1) 0) w) := by
  obtain ⟨i0, hi, hz0, hz1, hz2⟩ := info_parts infoI64
  have hb : Below w.heap.size w (w.alloc (.cells #[.int .i64 (P : Int), .int .i64 c, .int .i64 h, .int .i64 s] 25)) := (Below.refl _ _).alloc (Nat.le_refl _) _
  obtain ⟨x0, x1, x2, x3, xf, xl⟩ := (Blk.new w #[.int .i64 (P : Int), .int .i64 c, .int .i64 h, .int .i64 s] 25).four
  go_enter Tryz.func69, Tryz.ntmps69
  go_wp2_with (at_make; refine wpList_make_row _ rfl _ _ 26 rfl 2 i0 (.int .i64 0) Tryz.underlying26 hi hz0 hz1 rfl .i64 .i64 (P + 1) (by rfl) (by rfl) (by rw [hz2]; omega) (by omega) ?_)
  have hR := made_row (w.alloc (.cells #[.int .i64 (P : Int), .int .i64 c, .int .i64 h, .int .i64 s] 25)) (P + 1)
  have hsz : (w.alloc (.cells #[.int .i64 (P : Int), .int .i64 c, .int .i64 h, .int .i64 s] 25)).heap.size = w.heap.size + 1 := by simp
  rw [hsz] at hR
  go_wp2
  go_ret
  exact ⟨w.heap.size + 1, by simp, by omega, hR, chain_alloc hb _⟩
set_option maxHeartbeats 1000000 in
theorem l02Start_any (p c h s : Int) (w : World) (g : vB p c h s = true) (p4 : 4 ≤ p) : Calls Tryz.prog 98 #[.agg #[.int .i64 p, .int .i64 c, .int .i64 h, .int .i64 s]] w (Copied (startL p c h s) w) := by
  obtain ⟨v0, v1, v2, v3, v4, v5, v6, v7⟩ := vB_iff.1 g
  by_cases f : p = 24 ∧ c = 15 ∧ h = 6 ∧ s = 6
  · rw [startL, if_pos f]
    obtain ⟨rfl, rfl, rfl, rfl⟩ := f
    clear v0 v1 v2 v3 v4 v5 v6 v7 g p4
    have hb : Below w.heap.size w (w.alloc (.cells #[.int .i64 24, .int .i64 15, .int .i64 6, .int .i64 6] 25)) := (Below.refl _ _).alloc (Nat.le_refl _) _
    have B0 := Blk.new w #[.int .i64 24, .int .i64 15, .int .i64 6, .int .i64 6] 25
    obtain ⟨x0, x1, x2, x3, xf, xl⟩ := B0.four
    go_enter Tryz.func98, Tryz.ntmps98
    go_wp2_with fail
    refine (l02Empty_any 24 _ _ _ _ (by omega)).mono ?_
    rintro e w1 ⟨G, rfl, hG, hR, hb1⟩
    clear x0 x1 x2 x3 xf xl
    obtain ⟨x0, x1, x2, x3, xf, xl⟩ := (B0.below hb1).four
    replace hb := chain hb hb1
    replace hG : w.heap.size ≤ G := by simp at hG; omega
    have hrl : (List.replicate (24 + 1) (0 : Int)).length = 24 + 1 := by simp
    rw [hrl]
    clear hb1 B0
    go_wp2_with fail
    refine wp_region_held_drew (S := fun w' => w'.cell? ⟨w.heap.size, 0, none⟩ = some (.int .i64 24) ∧ w'.cell? ⟨w.heap.size, 1, none⟩ = some (.int .i64 15) ∧ w'.cell? ⟨w.heap.size, 2, none⟩ = some (.int .i64 6) ∧ w'.cell? ⟨w.heap.size, 3, none⟩ = some (.int .i64 6) ∧ Below w.heap.size w w' ∧ w.heap.size < w'.heap.size ∧ Row w' G (List.replicate 25 0)) (by kernel_rfl) ⟨x0, x1, x2, x3, hb.drew, xl, hR.drew⟩ (fun hHeld => ?_)
    refine tk 0 6 ?_
    refine rdk 1 7 fun K hK => ?_
    go_simp
    refine (specFull_any _).mono ?_
    rintro e w7 ⟨rfl, hb7⟩
    have hS := heldVRow hHeld hb7
    (try go_wp2_with fail)
    refine hko hK hS fun hHeld => ?_
    clear hK K
    refine tk 2 8 ?_
    refine wpAnyH_done (by kernel_rfl) ?_ _
    obtain ⟨-, -, -, -, hbw, hlw, R⟩ := hHeld
    have f0 := fun i => R.free i
    have c5 := R.cell 5 (by simp)
    have c7 := R.cell 7 (by simp)
    have c12 := R.cell 12 (by simp)
    have c23 := R.cell 23 (by simp)
    go_wp2
    go_ret
    exact ⟨G, by simp, by omega, (((R.set 5 5).set 7 3).set 12 5).set 23 2, (((hbw.setCell (by simp; omega) _).setCell (by simp; omega) _).setCell (by simp; omega) _).setCell (by simp; omega) _⟩
  · rw [startL, if_neg f]
    obtain ⟨P, rfl⟩ := Int.eq_ofNat_of_zero_le (by omega : 0 ≤ p)
    obtain ⟨C, rfl⟩ := Int.eq_ofNat_of_zero_le (by omega : 0 ≤ c)
    have ff := f
    clear g
    have hb : Below w.heap.size w (w.alloc (.cells #[.int .i64 (P : Int), .int .i64 (C : Int), .int .i64 h, .int .i64 s] 25)) := (Below.refl _ _).alloc (Nat.le_refl _) _
    have B0 := Blk.new w #[.int .i64 (P : Int), .int .i64 (C : Int), .int .i64 h, .int .i64 s] 25
    obtain ⟨x0, x1, x2, x3, xf, xl⟩ := B0.four
    go_enter Tryz.func98, Tryz.ntmps98
    go_wp2_with fail
    refine (l02Empty_any P _ _ _ _ (by omega)).mono ?_
    rintro e w1 ⟨G, rfl, hG, hR, hb1⟩
    clear x0 x1 x2 x3 xf xl
    obtain ⟨x0, x1, x2, x3, xf, xl⟩ := (B0.below hb1).four
    replace hb := chain hb hb1
    replace hG : w.heap.size ≤ G := by simp at hG; omega
    have hrl : (List.replicate (P + 1) (0 : Int)).length = P + 1 := by simp
    rw [hrl]
    clear hb1 B0
    go_wp2_with fail
    refine wp_region_held_drew (S := fun w' => w'.cell? ⟨w.heap.size, 0, none⟩ = some (.int .i64 (P : Int)) ∧ w'.cell? ⟨w.heap.size, 1, none⟩ = some (.int .i64 (C : Int)) ∧ w'.cell? ⟨w.heap.size, 2, none⟩ = some (.int .i64 h) ∧ w'.cell? ⟨w.heap.size, 3, none⟩ = some (.int .i64 s) ∧ Below w.heap.size w w' ∧ w.heap.size < w'.heap.size ∧ Row w' G (List.replicate (P + 1) 0)) (by kernel_rfl) ⟨x0, x1, x2, x3, hb.drew, xl, hR.drew⟩ (fun hHeld => ?_)
    refine wpAnyH_take (i := 0) (oi := ⟨some 6, _, _, _, _, _⟩) (v := ?_) rfl (by kernel_rfl) (by kernel_rfl) (by kernel_rfl) (fun _ _ _ h => h) (Or.inl ⟨by rfl, ?_⟩) (by assumption) ?_
    rotate_left
    · intro w hSw; (try dsimp only at hSw); go_simp; (try (with_reducible rfl))
      (try ((repeat' split) <;> first | (exfalso; omega) | rfl))
    try simp only [Act.put, List.setIfInBounds_toArray, List.set_cons_zero, List.set_cons_succ]
    refine rdk 1 7 fun K hK => ?_
    go_simp
    refine (specFull_any _).mono ?_
    rintro e w7 ⟨rfl, hb7⟩
    have hS := heldVRow hHeld hb7
    (try go_wp2_with fail)
    refine hko hK hS fun hHeld => ?_
    clear hK K
    refine wpAnyH_take (i := 2) (oi := ⟨some 8, _, _, _, _, _⟩) (v := ?_) rfl (by kernel_rfl) (by kernel_rfl) (by kernel_rfl) (fun _ _ _ h => h) (Or.inl ⟨by rfl, ?_⟩) (by assumption) ?_
    rotate_left
    · intro w hSw; (try dsimp only at hSw); go_simp; (try (with_reducible rfl))
      (try ((repeat' split) <;> first | (exfalso; omega) | rfl))
    try simp only [Act.put, List.setIfInBounds_toArray, List.set_cons_zero, List.set_cons_succ]
    refine wpAnyH_done (by kernel_rfl) ?_ _
    obtain ⟨-, y1, -, -, hbw, hlw, R⟩ := hHeld
    have f0 := fun i => R.free i
    have hH : ∃ H : Nat, (P : Int).tdiv 2 = H ∧ 2 ≤ H ∧ H * 2 ≤ P := ⟨P / 2, by rw [Int.tdiv_eq_ediv_of_nonneg (by omega)]; omega, by omega, by omega⟩
    have hE : ∃ E : Nat, (C : Int).tdiv 2 = E ∧ E ≤ C := ⟨C / 2, by rw [Int.tdiv_eq_ediv_of_nonneg (by omega)]; omega, by omega⟩
    obtain ⟨H, hH, H2, HP⟩ := hH
    obtain ⟨E, hE, EC⟩ := hE
    have cA := R.cell (P - 1) (by simp; omega)
    have cB := (R.set (P - 1) E).cell (H - 1) (by simp; omega)
    rw [hH, hE]
    have i1 : (0 : Int) ≤ (P : Int) - 1 := by omega
    have i2 : (P : Int) - 1 < (P : Int) + 1 := by omega
    have i3 : (0 : Int) ≤ (H : Int) - 1 := by omega
    have i4 : (H : Int) - 1 < (P : Int) + 1 := by omega
    clear f ff
    go_wp2
    go_ret
    have hL : ((List.replicate ((P : Int).toNat + 1) (0 : Int)).set ((P : Int) - 1).toNat ((C : Int).tdiv 2)).set ((P : Int).tdiv 2 - 1).toNat ((C : Int) - (C : Int).tdiv 2) = ((List.replicate (P + 1) (0 : Int)).set (P - 1) (E : Int)).set (H - 1) ((C : Int) - (E : Int)) := by
      rw [hH, hE, show ((P : Int)).toNat = P by omega, show ((P : Int) - 1).toNat = P - 1 by omega, show ((H : Int) - 1).toNat = H - 1 by omega]
    exact ⟨G, by simp, by omega, ((R.set (P - 1) E).set (H - 1) ((C : Int) - (E : Int))).wf hL.symm, (hbw.setCell (by simp; omega) _).setCell (by simp; omega) _⟩
theorem set_bound {ys : List Int} {m i : Nat} {v : Int} (h : ∀ y ∈ ys, 0 ≤ y ∧ y ≤ 15 - ((m + 1 : Nat) : Int)) (hv : 0 ≤ v ∧ v ≤ 15 - ((m + 1 : Nat) : Int)) : ∀ y ∈ ys.set i (v + 1), 0 ≤ y ∧ y ≤ 15 - (m : Int) := by
  intro y hy
  rcases List.mem_or_eq_of_mem_set hy with h1 | rfl
  · have := h y h1; omega
  · omega
def SidePost (B g P : Nat) (a : Option Addr) (len cap : Nat) (w : World) (e : Ending) (w' : World) : Prop :=
  ∃ go ys, e = .returned (.slice (some ⟨go, 0, none⟩) (P + 1) (P + 1)) ∧ ys.length = P + 1 ∧ (∀ y ∈ ys, 0 ≤ y ∧ y ≤ 15) ∧ Row w' go ys ∧ w.heap.size ≤ go ∧ Src B w' g a len cap ∧ w.grownBy w' (some g)
def sideAt (B g P go gt : Nat) (vc : Array Value) (a : Option Addr) (len cap : Nat) (ts : List Int) (w : World) (m : Nat) (k : Value) (wr : World) : Prop :=
  k = .int .i64 m ∧ m ≤ 15 ∧ ∃ ys : List Int, ys.length = P + 1 ∧ (∀ y ∈ ys, 0 ≤ y ∧ y ≤ 15 - (m : Int)) ∧ Row wr go ys ∧ Blk wr w.heap.size vc 25 ∧ Row wr gt ts ∧ Src B wr g a len cap ∧ w.grownBy wr (some g)
set_option maxHeartbeats 2000000 in
theorem drawSide_any (B g P gt tc : Nat) (c h s : Int) (a : Option Addr) (len cap : Nat) (ts : List Int) (w : World) (p0 : 2 ≤ P) (p1 : P ≤ 24) (k0 : 1 ≤ c) (k1 : c ≤ 15) (ht : ts.length = P + 1) (hne : gt ≠ g) (hR : Row w gt ts) (hS : Src B w g a len cap) :
    Calls Tryz.prog 73 #[.pointer (some ⟨g, 0, none⟩), .agg #[.int .i64 (P : Int), .int .i64 c, .int .i64 h, .int .i64 s], .slice (some ⟨gt, 0, none⟩) (P + 1) tc] w (SidePost B g P a len cap w) := by
  have hl := hS.lt
  have hlt := hR.lt
  have hBg := hS.base
  have BV := Blk.new w #[.int .i64 (P : Int), .int .i64 c, .int .i64 h, .int .i64 s] 25
  replace hS := hS.alloc (.cells #[.int .i64 (P : Int), .int .i64 c, .int .i64 h, .int .i64 s] 25)
  replace hR := hR.alloc (.cells #[.int .i64 (P : Int), .int .i64 c, .int .i64 h, .int .i64 s] 25)
  have hG : w.grownBy (w.alloc (.cells #[.int .i64 (P : Int), .int .i64 c, .int .i64 h, .int .i64 s] 25)) (some g) := World.grownBy_alloc w _ _
  obtain ⟨x0, x1, x2, x3, xf, xl⟩ := BV.four
  have hsz : (w.alloc (.cells #[.int .i64 (P : Int), .int .i64 c, .int .i64 h, .int .i64 s] 25)).heap.size = w.heap.size + 1 := by simp
  go_enter Tryz.func73, Tryz.ntmps73
  go_wp2_with fail
  generalize (w.alloc (.cells #[.int .i64 (P : Int), .int .i64 c, .int .i64 h, .int .i64 s] 25)) = v0 at *
  refine (l02Empty_any P c h s _ p1).mono ?_
  rintro e w1 ⟨go, rfl, hgo, R, hb1⟩
  have hrl : (List.replicate (P + 1) (0 : Int)).length = P + 1 := by simp
  rw [hrl]
  clear hrl x0 x1 x2 x3 xf xl
  replace BV := BV.below hb1
  replace hS := hS.below hb1
  replace hR := hR.below hb1
  replace hG := grown_trans hG (grown_of_below hb1 _)
  have hgn : go ≠ g := by omega
  have hgw : w.heap.size + 1 ≤ go := by omega
  clear hb1
  obtain ⟨x0, x1, x2, x3, xf, xl⟩ := BV.four
  go_wp2_with fail
  refine (next_any B g a len cap (P : Int) _ hS (by omega)).mono ?_
  rintro e w2 ⟨r1, rfl, q1, u1, hS, hg⟩
  replace BV := BV.grown hg (by omega)
  replace R := R.grown hg hgn
  replace hR := hR.grown hg hne
  replace hG := grown_trans hG hg
  clear hg x0 x1 x2 x3 xf xl
  obtain ⟨x0, x1, x2, x3, xf, xl⟩ := BV.four
  go_wp2_with fail
  refine (next_any B g a len cap (c + 1) _ hS (by omega)).mono ?_
  rintro e w3 ⟨r2, rfl, q2, u2, hS, hg⟩
  replace BV := BV.grown hg (by omega)
  replace R := R.grown hg hgn
  replace hR := hR.grown hg hne
  replace hG := grown_trans hG hg
  clear hg x0 x1 x2 x3 xf xl
  obtain ⟨m0, rfl⟩ := Int.eq_ofNat_of_zero_le q2
  go_wp2_with fail
  go_loopg [9] m0 (fun m k wr => sideAt B g P go gt #[.int .i64 (P : Int), .int .i64 c, .int .i64 h, .int .i64 s] a len cap ts w m k wr)
  case atStart => exact ⟨rfl, by omega, List.replicate (P + 1) 0, by simp, (fun y hy => by rw [(List.mem_replicate.1 hy).2]; omega), R, BV, hR, hS, hG⟩
  case round =>
    clear R BV hR hS hG
    obtain ⟨rfl, hm15, ys, hy, hyb, R, BV, hR, hS, hG⟩ := hrel
    have hgg : gt ≠ go := by omega
    cases gk with
    | zero =>
      go_wp2
      go_ret
      exact ⟨go, ys, rfl, hy, (fun y h => by have := hyb y h; omega), R, by omega, hS, hG⟩
    | succ m =>
      have hk0 : (0 : Int) < ((m + 1 : Nat) : Int) := by omega
      go_wp2_with fail
      refine (next_any B g a len cap (1 + r1) _ hS (by omega)).mono ?_
      rintro e w4 ⟨r3, rfl, q3, u3, hS, hg⟩
      replace BV := BV.grown hg (by omega)
      replace R := R.grown hg hgn
      replace hR := hR.grown hg hne
      replace hG := grown_trans hG hg
      clear hg
      obtain ⟨i3, rfl⟩ := Int.eq_ofNat_of_zero_le q3
      have hi3 : i3 < P := by omega
      go_wp2_with fail
      refine (next_any B g a len cap 10 _ hS (by omega)).mono ?_
      rintro e w5 ⟨r4, rfl, q4, u4, hS, hg⟩
      replace BV := BV.grown hg (by omega)
      replace R := R.grown hg hgn
      replace hR := hR.grown hg hne
      replace hG := grown_trans hG hg
      clear hg
      obtain ⟨x0, x1, x2, x3, xf, xl⟩ := BV.four
      have f0 := fun i => R.free i
      by_cases e4 : r4 = 0
      · subst e4
        have cP := R.cell P (by omega)
        obtain ⟨v, hv⟩ : ∃ v, ys.getD P 0 = v := ⟨_, rfl⟩
        rw [hv] at cP
        have hvb := hyb v (hv ▸ getD_mem (show P < ys.length by omega))
        have v0b : 0 ≤ v := hvb.1
        have v1b : v ≤ 14 := by omega
        have HV := Lib.hid hvb
        have HY := Lib.hid hyb
        clear hv hvb hyb
        go_wp2
        go_roundg m
        case measure => omega
        case rel => exact ⟨by go_num, by omega, _, by simp [hy], set_bound HY.out HV.out, R.set P _, BV.other (by omega), hR.other hgg, hS.set hgn (by omega), grown_new hG (by omega)⟩
      · have e4' : (r4 == 0) = false := by rw [beq_eq_false_iff_ne]; exact e4
        have hne3 : ((i3 : Int) == (P : Int)) = false := by rw [beq_eq_false_iff_ne]; omega
        have hT := hR.cell (P - 1 - i3) (by omega)
        obtain ⟨tv, htv⟩ : ∃ tv, ts.getD (P - 1 - i3) 0 = tv := ⟨_, rfl⟩
        rw [htv] at hT
        have j1 : (0 : Int) ≤ (P : Int) - 1 - (i3 : Int) := by omega
        have j2 : (P : Int) - 1 - (i3 : Int) < (P : Int) + 1 := by omega
        have j3 : (i3 : Int) < (P : Int) + 1 := by omega
        have cP := R.cell i3 (by omega)
        obtain ⟨v, hv⟩ : ∃ v, ys.getD i3 0 = v := ⟨_, rfl⟩
        rw [hv] at cP
        have hvb := hyb v (hv ▸ getD_mem (show i3 < ys.length by omega))
        have v0b : 0 ≤ v := hvb.1
        have v1b : v ≤ 14 := by omega
        have HV := Lib.hid hvb
        have HY := Lib.hid hyb
        clear hv htv hvb hyb
        by_cases z : tv = 0
        · have z' : (tv == 0) = true := by rw [beq_iff_eq]; exact z
          clear z
          go_wp2
          go_roundg m
          case measure => omega
          case rel => exact ⟨by go_num, by omega, _, by simp [hy], set_bound HY.out HV.out, R.set i3 _, BV.other (by omega), hR.other hgg, hS.set hgn (by omega), grown_new hG (by omega)⟩
        · have z' : (tv == 0) = false := by rw [beq_eq_false_iff_ne]; exact z
          clear z
          go_wp2
          go_roundg m
          case measure => omega
          case rel => exact ⟨by go_num, by omega, ys, hy, (fun y h => by have := HY.out y h; omega), R, BV, hR, hS, hG⟩
theorem heldVR {w W w2 : World} {p c h s : Int} (hS : W.cell? ⟨w.heap.size, 0, none⟩ = some (.int .i64 p) ∧ W.cell? ⟨w.heap.size, 1, none⟩ = some (.int .i64 c) ∧ W.cell? ⟨w.heap.size, 2, none⟩ = some (.int .i64 h) ∧ W.cell? ⟨w.heap.size, 3, none⟩ = some (.int .i64 s) ∧ Below w.heap.size w W ∧ ∃ u0 u1, Blk W (w.heap.size + 1) #[u0, u1] 28) (hb : Below W.heap.size W w2) : w2.cell? ⟨w.heap.size, 0, none⟩ = some (.int .i64 p) ∧ w2.cell? ⟨w.heap.size, 1, none⟩ = some (.int .i64 c) ∧ w2.cell? ⟨w.heap.size, 2, none⟩ = some (.int .i64 h) ∧ w2.cell? ⟨w.heap.size, 3, none⟩ = some (.int .i64 s) ∧ Below w.heap.size w w2 ∧ ∃ u0 u1, Blk w2 (w.heap.size + 1) #[u0, u1] 28 := by
  obtain ⟨h0, h1, h2, h3, h4, u0, u1, h6⟩ := hS
  obtain ⟨hc, _⟩ := bcell hb
  have h5 : w.heap.size < W.heap.size := by have := h6.lt; omega
  exact ⟨by rw [hc _ _ h5]; exact h0, by rw [hc _ _ h5]; exact h1, by rw [hc _ _ h5]; exact h2, by rw [hc _ _ h5]; exact h3, chain h4 hb, u0, u1, h6.below hb⟩
theorem storeVR {w W : World} {p c h s : Int} (hS : W.cell? ⟨w.heap.size, 0, none⟩ = some (.int .i64 p) ∧ W.cell? ⟨w.heap.size, 1, none⟩ = some (.int .i64 c) ∧ W.cell? ⟨w.heap.size, 2, none⟩ = some (.int .i64 h) ∧ W.cell? ⟨w.heap.size, 3, none⟩ = some (.int .i64 s) ∧ Below w.heap.size w W ∧ ∃ u0 u1, Blk W (w.heap.size + 1) #[u0, u1] 28) (q0 q1 : Value) : ((W.setCell ⟨w.heap.size + 1, 0, none⟩ q0).setCell ⟨w.heap.size + 1, 1, none⟩ q1).cell? ⟨w.heap.size, 0, none⟩ = some (.int .i64 p) ∧ ((W.setCell ⟨w.heap.size + 1, 0, none⟩ q0).setCell ⟨w.heap.size + 1, 1, none⟩ q1).cell? ⟨w.heap.size, 1, none⟩ = some (.int .i64 c) ∧ ((W.setCell ⟨w.heap.size + 1, 0, none⟩ q0).setCell ⟨w.heap.size + 1, 1, none⟩ q1).cell? ⟨w.heap.size, 2, none⟩ = some (.int .i64 h) ∧ ((W.setCell ⟨w.heap.size + 1, 0, none⟩ q0).setCell ⟨w.heap.size + 1, 1, none⟩ q1).cell? ⟨w.heap.size, 3, none⟩ = some (.int .i64 s) ∧ Below w.heap.size w ((W.setCell ⟨w.heap.size + 1, 0, none⟩ q0).setCell ⟨w.heap.size + 1, 1, none⟩ q1) ∧ ∃ u0 u1, Blk ((W.setCell ⟨w.heap.size + 1, 0, none⟩ q0).setCell ⟨w.heap.size + 1, 1, none⟩ q1) (w.heap.size + 1) #[u0, u1] 28 := by
  obtain ⟨h0, h1, h2, h3, h4, u0, u1, h6⟩ := hS
  refine ⟨?_, ?_, ?_, ?_, (h4.setCell (by simp) _).setCell (by simp) _, q0, q1, (h6.set q0).set q1⟩ <;> (rw [World.cell?_setCell_far _ _ _ _ (by simp), World.cell?_setCell_far _ _ _ _ (by simp)]; assumption)
end Go.Proofs.YtciljbnailobgaaGreat
