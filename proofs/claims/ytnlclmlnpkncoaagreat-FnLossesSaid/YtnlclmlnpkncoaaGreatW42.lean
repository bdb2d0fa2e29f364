/- Texts of a proof, laid together. -/
import Derived.Test.YtnlclmlnpkncoaaGreatW38
import Derived.Test.YtnlclmlnpkncoaaGreatW37
import Derived.Test.YtnlclmlnpkncoaaGreatW05
import Derived.Deep.LoopGhost
import Derived.RegionTactic
import Derived.Deep.RegionWith
namespace Go.Proofs.YtnlclmlnpkncoaaGreat
open Go.ChangeShapes Go.WideShapes Go.ChangeAt Go.RowKit
set_option linter.unusedVariables false
set_option linter.unusedSimpArgs false
theorem Src.lt {B g : Nat} {a : Option Addr} {len cap : Nat} {w : World} (h : Src B w g a len cap) : g < w.heap.size := by
  obtain ⟨k, s, hB, _⟩ := h; exact hB.lt
theorem Src.base {B g : Nat} {a : Option Addr} {len cap : Nat} {w : World} (h : Src B w g a len cap) : B ≤ g := by
  obtain ⟨k, s, _, _, _, _, hB, _⟩ := h; exact hB
theorem Src.alloc {B g : Nat} {a : Option Addr} {len cap : Nat} {w : World} (h : Src B w g a len cap) (o : Obj) : Src B (w.alloc o) g a len cap := by
  have hl := h.lt
  obtain ⟨k, s, hB, h1, h2, h3, h4, h5, h6⟩ := h
  exact ⟨k, s, hB.alloc o, h1, h2, h3, h4, h5, h6.below ((Below.refl B w).alloc (by omega) o)⟩
theorem Src.drew {B g : Nat} {a : Option Addr} {len cap : Nat} {w : World} (h : Src B w g a len cap) : Src B w.drew g a len cap := by
  obtain ⟨k, s, hB, h1, h2, h3, h4, h5, h6⟩ := h
  exact ⟨k, s, hB.drew, h1, h2, h3, h4, h5, h6.below (Below.refl B w).drew⟩
theorem Src.below {B g : Nat} {a : Option Addr} {len cap : Nat} {w w' : World} (h : Src B w g a len cap) (hb : Below w.heap.size w w') : Src B w' g a len cap := by
  have hl := h.lt
  obtain ⟨k, s, hB, h1, h2, h3, h4, h5, h6⟩ := h
  exact ⟨k, s, hB.below hb, h1, h2, h3, h4, h5, h6.below (hb.mono (by omega))⟩
theorem grown_new {w w1 : World} {g g' o : Nat} {v : Value} (h : w.grownBy w1 (some g)) (hn : w.heap.size ≤ g') : w.grownBy (w1.setCell ⟨g', o, none⟩ v) (some g) := by
  have hb := Below.setCell (Below.refl g' w1) (p := ⟨g', o, none⟩) (Nat.le_refl _) v
  refine ⟨hb.os.trans h.os, hb.tape.trans h.tape, hb.output.trans h.output, Nat.le_trans h.size hb.size, fun i hi hr => ?_⟩
  rw [Below.heap_setCell w1 ⟨g', o, none⟩ v i (fun e => by simp only at e; omega)]
  exact h.block i hi hr
theorem Src.set {B g g' o : Nat} {a : Option Addr} {len cap : Nat} {w : World} {v : Value} (h : Src B w g a len cap) (hn : g' ≠ g) (hB : B ≤ g') : Src B (w.setCell ⟨g', o, none⟩ v) g a len cap := by
  obtain ⟨k, s, hBk, h1, h2, h3, h4, h5, h6⟩ := h
  refine ⟨k, s, ?_, h1, h2, h3, h4, h5, h6.below ((Below.refl B w).setCell hB v)⟩
  exact (Below.heap_setCell w ⟨g', o, none⟩ v g (fun e => hn e.symm)).trans hBk
def CodeIs (B : Nat) (w : World) (a : Option Addr) (len : Nat) (bs : Nat → Int) : Prop :=
  ∀ i, i < len → ∃ b o, a = some ⟨b, o, none⟩ ∧ b < B ∧ w.cell? ⟨b, o + i, none⟩ = some (.int .u8 (bs i)) ∧ 0 ≤ bs i ∧ bs i ≤ 255
def SrcD (B : Nat) (w : World) (g : Nat) (a : Option Addr) (len cap : Nat) (bs : Nat → Int) (st : Nat × Int) : Prop :=
  Blk w g #[.slice a len cap, .int .i64 st.1, .int .i64 st.2] 103 ∧ st.1 ≤ len ∧ 0 ≤ st.2 ∧ st.2 ≤ 2147483646 ∧ B ≤ g ∧ len ≤ 1048576 ∧ CodeIs B w a len bs
theorem CodeIs.below {B : Nat} {w w' : World} {a : Option Addr} {len : Nat} {bs : Nat → Int} (h : CodeIs B w a len bs) (hb : Below B w w') : CodeIs B w' a len bs := fun i hi => by
  obtain ⟨b, o, e, hl, hc, h1, h2⟩ := h i hi
  exact ⟨b, o, e, hl, by rw [hb.cell (p := ⟨b, o + i, none⟩) hl]; exact hc, h1, h2⟩
theorem CodeIn.is {B : Nat} {w : World} {a : Option Addr} {len : Nat} (h : CodeIn B w a len) : ∃ bs, CodeIs B w a len bs := by
  have h2 : ∀ i, ∃ n : Int, i < len → ∃ b o, a = some ⟨b, o, none⟩ ∧ b < B ∧ w.cell? ⟨b, o + i, none⟩ = some (.int .u8 n) ∧ 0 ≤ n ∧ n ≤ 255 := by
    intro i
    by_cases hi : i < len
    · obtain ⟨b, o, n, h⟩ := h i hi
      exact ⟨n, fun _ => ⟨b, o, h⟩⟩
    · exact ⟨0, fun q => absurd q hi⟩
  obtain ⟨bs, hbs⟩ := Classical.axiomOfChoice h2
  exact ⟨bs, fun i hi => hbs i hi⟩
theorem SrcD.lt {B g : Nat} {a : Option Addr} {len cap : Nat} {bs : Nat → Int} {st : Nat × Int} {w : World} (h : SrcD B w g a len cap bs st) : g < w.heap.size := by
  obtain ⟨hB, _⟩ := h; exact hB.lt
theorem SrcD.base {B g : Nat} {a : Option Addr} {len cap : Nat} {bs : Nat → Int} {st : Nat × Int} {w : World} (h : SrcD B w g a len cap bs st) : B ≤ g := by
  obtain ⟨_, _, _, _, hB, _⟩ := h; exact hB
theorem SrcD.alloc {B g : Nat} {a : Option Addr} {len cap : Nat} {bs : Nat → Int} {st : Nat × Int} {w : World} (h : SrcD B w g a len cap bs st) (o : Obj) : SrcD B (w.alloc o) g a len cap bs st := by
  have hl := h.lt
  obtain ⟨hB, h1, h2, h3, h4, h5, h6⟩ := h
  exact ⟨hB.alloc o, h1, h2, h3, h4, h5, h6.below ((Below.refl B w).alloc (by omega) o)⟩
theorem SrcD.drew {B g : Nat} {a : Option Addr} {len cap : Nat} {bs : Nat → Int} {st : Nat × Int} {w : World} (h : SrcD B w g a len cap bs st) : SrcD B w.drew g a len cap bs st := by
  obtain ⟨hB, h1, h2, h3, h4, h5, h6⟩ := h
  exact ⟨hB.drew, h1, h2, h3, h4, h5, h6.below (Below.refl B w).drew⟩
theorem SrcD.below {B g : Nat} {a : Option Addr} {len cap : Nat} {bs : Nat → Int} {st : Nat × Int} {w w' : World} (h : SrcD B w g a len cap bs st) (hb : Below w.heap.size w w') : SrcD B w' g a len cap bs st := by
  have hl := h.lt
  obtain ⟨hB, h1, h2, h3, h4, h5, h6⟩ := h
  exact ⟨hB.below hb, h1, h2, h3, h4, h5, h6.below (hb.mono (by omega))⟩
theorem SrcD.set {B g g' o : Nat} {a : Option Addr} {len cap : Nat} {bs : Nat → Int} {st : Nat × Int} {w : World} {v : Value} (h : SrcD B w g a len cap bs st) (hn : g' ≠ g) (hB : B ≤ g') : SrcD B (w.setCell ⟨g', o, none⟩ v) g a len cap bs st := by
  obtain ⟨hBk, h1, h2, h3, h4, h5, h6⟩ := h
  refine ⟨?_, h1, h2, h3, h4, h5, h6.below ((Below.refl B w).setCell hB v)⟩
  exact (Below.heap_setCell w ⟨g', o, none⟩ v g (fun e => hn e.symm)).trans hBk
theorem SrcD.keepL {B g base : Nat} {a : Option Addr} {len cap : Nat} {bs : Nat → Int} {st : Nat × Int} {w w' : World} (h : SrcD B w g a len cap bs st) (hg : g < base) (hb : Below base w w') : SrcD B w' g a len cap bs st := by
  obtain ⟨hB, h1, h2, h3, h4, h5, h6⟩ := h
  exact ⟨(hb.block g hg).trans hB, h1, h2, h3, h4, h5, h6.below (hb.mono (by omega))⟩
def nxV (len : Nat) (bs : Nat → Int) (st : Nat × Int) (n : Int) : Int × (Nat × Int) :=
  if n ≤ 1 then (0, st)
  else if st.1 < len then
    (if n ≤ 256 ∧ (st.1 + 1) % 2 = 0 then bs st.1 % n else ((st.2 * 48271 + 17) % 2147483647 / 11 + bs st.1) % n, (st.1 + 1, (st.2 * 48271 + 17) % 2147483647))
  else ((st.2 * 48271 + 17) % 2147483647 / 11 % n, (st.1, (st.2 * 48271 + 17) % 2147483647))
theorem nx_bnd (len : Nat) (bs : Nat → Int) (st : Nat × Int) (n : Int) : 0 ≤ (nxV len bs st n).1 ∧ ((nxV len bs st n).1 < n ∨ (nxV len bs st n).1 = 0) := by
  unfold nxV
  by_cases h : n ≤ 1
  · rw [if_pos h]
    exact ⟨Int.le_refl _, .inr rfl⟩
  · rw [if_neg h]
    have h1 : n ≠ 0 := by omega
    have h2 : 0 < n := by omega
    split
    · dsimp only
      split
      · exact ⟨Int.emod_nonneg _ h1, .inl (Int.emod_lt_of_pos _ h2)⟩
      · exact ⟨Int.emod_nonneg _ h1, .inl (Int.emod_lt_of_pos _ h2)⟩
    · exact ⟨Int.emod_nonneg _ h1, .inl (Int.emod_lt_of_pos _ h2)⟩
def NextD (B g : Nat) (a : Option Addr) (len cap : Nat) (bs : Nat → Int) (q : Int × (Nat × Int)) (w : World) (e : Ending) (w' : World) : Prop :=
  e = .returned (.int .i64 q.1) ∧ SrcD B w' g a len cap bs q.2 ∧ w.grownBy w' (some g)
theorem srcD_step {B g : Nat} {a : Option Addr} {len cap : Nat} {bs : Nat → Int} {w W : World} {k : Nat} {s' : Int} (hB : Blk W g #[.slice a len cap, .int .i64 ((k + 1 : Nat) : Int), .int .i64 s'] 103) (hG : w.grownBy W (some g))
    (hk : k < len) (p0 : 0 ≤ s') (p1 : s' ≤ 2147483646) (hBg : B ≤ g) (cl : g < w.heap.size) (hlen : len ≤ 1048576) (hcode : CodeIs B w a len bs) : SrcD B W g a len cap bs (k + 1, s') :=
  ⟨hB, by show k + 1 ≤ len; omega, p0, p1, hBg, hlen, hcode.below (below_of_grown hG (by omega) hBg)⟩
set_option maxHeartbeats 1000000 in
theorem nextD_any (B g : Nat) (a : Option Addr) (len cap : Nat) (bs : Nat → Int) (st : Nat × Int) (n : Int) (w : World) (hS : SrcD B w g a len cap bs st) (hn : n ≤ 1000000000000) :
    Calls Tryz.prog 54 #[.pointer (some ⟨g, 0, none⟩), .int .i64 n] w (NextD B g a len cap bs (nxV len bs st n) w) := by
  obtain ⟨k, s⟩ := st
  by_cases h1 : n ≤ 1
  · rw [show nxV len bs (k, s) n = (0, (k, s)) by rw [nxV, if_pos h1]]
    go_enter Tryz.func54, Tryz.ntmps54
    go_wp2
    go_ret
    exact ⟨rfl, hS, grown_refl _ _⟩
  · obtain ⟨hB, hk, s0, s1, hBg, hlen, hcode⟩ := hS
    dsimp only at hB hk s0 s1
    obtain ⟨c0, c1, c2, cf, cl⟩ := hB.three
    obtain ⟨s', hs'⟩ : ∃ s' : Int, (s * 48271 + 17) % 2147483647 = s' := ⟨_, rfl⟩
    have p0 : 0 ≤ s' := by omega
    have p1 : s' ≤ 2147483646 := by omega
    by_cases hat : k < len
    · obtain ⟨b, o, rfl, hbB, hz, z0, z1⟩ := hcode k hat
      obtain ⟨z, hzz⟩ : ∃ z, bs k = z := ⟨_, rfl⟩
      rw [hzz] at hz z0 z1
      have hat' : decide ((k : Int) < (len : Int)) = true := by simp; omega
      have hlt' : (k : Int) < (len : Int) := by omega
      have hkk : (0 : Int) ≤ (k : Int) := by omega
      have hne : b ≠ g := by omega
      have hne' : g ≠ b := by omega
      by_cases h256 : n ≤ 256
      · have f1 : decide (n ≤ 256) = true := by simp; omega
        by_cases hev : (k + 1) % 2 = 0
        · have f2 : (((k : Int) + 1) % 2 == 0) = true := by rw [beq_iff_eq]; omega
          rw [show nxV len bs (k, s) n = (z % n, (k + 1, s')) by rw [nxV, if_neg h1, if_pos hat, if_pos ⟨h256, hev⟩]; dsimp only; rw [hzz, hs']]
          go_enter Tryz.func54, Tryz.ntmps54
          go_wp2_with fail
          go_quiet (fail)
          go_wp2_with fail
          go_quiet (fail)
          go_wp2_with fail
          go_quiet (fail)
          go_wp2
          go_ret
          refine ⟨rfl, srcD_step ((blk_step hB _).drewN _) (grown_drewN (grown_set (grown_drewN (grown_set (grown_refl w _)) _)) _) hat p0 p1 hBg cl hlen hcode, grown_drewN (grown_set (grown_drewN (grown_set (grown_refl w _)) _)) _⟩
        · have f2 : (((k : Int) + 1) % 2 == 0) = false := by rw [beq_eq_false_iff_ne]; omega
          rw [show nxV len bs (k, s) n = ((s' / 11 + z) % n, (k + 1, s')) by rw [nxV, if_neg h1, if_pos hat, if_neg (fun q => hev q.2)]; dsimp only; rw [hzz, hs']]
          go_enter Tryz.func54, Tryz.ntmps54
          go_wp2_with fail
          go_quiet (fail)
          go_wp2_with fail
          go_quiet (fail)
          go_wp2
          go_ret
          refine ⟨rfl, srcD_step (blk_step hB _) (grown_set (grown_drewN (grown_set (grown_refl w _)) _)) hat p0 p1 hBg cl hlen hcode, grown_set (grown_drewN (grown_set (grown_refl w _)) _)⟩
      · have f1 : decide (n ≤ 256) = false := by simp; omega
        rw [show nxV len bs (k, s) n = ((s' / 11 + z) % n, (k + 1, s')) by rw [nxV, if_neg h1, if_pos hat, if_neg (fun q => h256 q.1)]; dsimp only; rw [hzz, hs']]
        go_enter Tryz.func54, Tryz.ntmps54
        go_wp2_with fail
        go_quiet (fail)
        go_wp2_with fail
        go_quiet (fail)
        go_wp2
        go_ret
        refine ⟨rfl, srcD_step (blk_step hB _) (grown_set (grown_drewN (grown_set (grown_refl w _)) _)) hat p0 p1 hBg cl hlen hcode, grown_set (grown_drewN (grown_set (grown_refl w _)) _)⟩
    · have hat' : decide ((k : Int) < (len : Int)) = false := by simp; omega
      have hlt' : (len : Int) ≤ (k : Int) := by omega
      rw [show nxV len bs (k, s) n = (s' / 11 % n, (k, s')) by rw [nxV, if_neg h1, if_neg hat]; dsimp only; rw [hs']]
      go_enter Tryz.func54, Tryz.ntmps54
      go_wp2_with fail
      go_quiet (fail)
      go_wp2
      go_ret
      have hG : w.grownBy ((w.setCell ⟨g, 2, none⟩ (.int .i64 s')).drewN nq) (some g) := grown_drewN (grown_set (grown_refl w _)) nq
      refine ⟨rfl, ⟨?_, hk, p0, p1, hBg, hlen, hcode.below (below_of_grown hG (by omega) hBg)⟩, hG⟩
      simpa using (hB.set (i := 2) (.int .i64 s')).drewN nq
def frV (bs : Nat → Int) : Nat → Int
  | 0 => 24157
  | k + 1 => (frV bs k * 43 + bs k) % 2147483647
def frS (len : Nat) (bs : Nat → Int) : Nat × Int := (0, frV bs (min len 64))
def FromD (B : Nat) (a : Option Addr) (len cap : Nat) (bs : Nat → Int) (w : World) (e : Ending) (w' : World) : Prop :=
  ∃ g, e = .returned (.pointer (some ⟨g, 0, none⟩)) ∧ w.heap.size ≤ g ∧ SrcD B w' g a len cap bs (frS len bs) ∧ Below w.heap.size w w'
def fromDAt (B : Nat) (a : Option Addr) (len cap : Nat) (bs : Nat → Int) (w : World) (m : Nat) (i : Value) (wr : World) : Prop :=
  ∃ (k : Nat) (s : Int), k ≤ len ∧ k ≤ 64 ∧ frV bs k = s ∧ m = len - k ∧ i = .int .i64 k ∧ Blk wr w.heap.size #[.slice a len cap, .int .i64 0, .int .i64 s] 103 ∧ 0 ≤ s ∧ s ≤ 2147483646 ∧ Below w.heap.size w wr
set_option maxHeartbeats 1000000 in
theorem fromD_any (B : Nat) (a : Option Addr) (len cap : Nat) (bs : Nat → Int) (w : World) (hB : B ≤ w.heap.size) (hlen : len ≤ 1048576) (hcode : CodeIs B w a len bs) :
    Calls Tryz.prog 21 #[.slice a len cap] w (FromD B a len cap bs w) := by
  go_enter Tryz.func21, Tryz.ntmps21
  go_wp2
  go_loopg [4] len (fun m i wr => fromDAt B a len cap bs w m i wr)
  case atStart => exact ⟨0, 24157, by omega, by omega, rfl, by omega, rfl, Blk.new w _ _, by omega, by omega, (Below.refl _ _).alloc (Nat.le_refl _) _⟩
  case round =>
    obtain ⟨k, s, hk, hk64, hfr, hm, rfl, hS, s0, s1, hb⟩ := hrel
    obtain ⟨c0, c1, c2, cf, cl⟩ := hS.three
    have hc1 := hcode.below (hb.mono hB)
    obtain ⟨s', hs'⟩ : ∃ s' : Int, s' = s := ⟨_, rfl⟩
    by_cases hlt : k < len
    · have f1 : decide ((k : Int) < (len : Int)) = true := by simp; omega
      have hlt' : (k : Int) < (len : Int) := by omega
      have hkk : (0 : Int) ≤ (k : Int) := by omega
      by_cases h64 : k < 64
      · have f2 : decide ((k : Int) < 64) = true := by simp; omega
        obtain ⟨b, o, rfl, hbB, hz, z0, z1⟩ := hc1 k hlt
        obtain ⟨z, hzz⟩ : ∃ z, bs k = z := ⟨_, rfl⟩
        rw [hzz] at hz z0 z1
        clear hs' hc1
        go_wp2_with fail
        go_region
        go_wp2
        go_roundg (len - (k + 1))
        case measure => omega
        case rel => exact ⟨k + 1, (s * 43 + z) % 2147483647, by omega, by omega, by rw [frV, hfr, hzz], rfl, by go_num, (by simpa using (hS.set (i := 2) (.int .i64 ((s * 43 + z) % 2147483647))).drew), by omega, by omega, (hb.setCell (Nat.le_refl _) _).drew⟩
      · have f2 : decide ((k : Int) < 64) = false := by simp; omega
        clear hs' hc1
        go_wp2
        go_ret
        have hst : frS len bs = (0, s) := by rw [frS, show min len 64 = k by omega, hfr]
        exact ⟨w.heap.size, rfl, Nat.le_refl _, by rw [hst]; exact ⟨hS, Nat.zero_le _, s0, s1, hB, hlen, hcode.below (hb.mono hB)⟩, hb⟩
    · have f1 : decide ((k : Int) < (len : Int)) = false := by simp; omega
      clear hs' hc1
      go_wp2
      go_ret
      have hst : frS len bs = (0, s) := by rw [frS, show min len 64 = k by omega, hfr]
      exact ⟨w.heap.size, rfl, Nat.le_refl _, by rw [hst]; exact ⟨hS, Nat.zero_le _, s0, s1, hB, hlen, hcode.below (hb.mono hB)⟩, hb⟩
end Go.Proofs.YtnlclmlnpkncoaaGreat
