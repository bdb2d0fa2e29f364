/- Chapter 13: the bytes of a database (mathematics), and the program's check sum in bytes. -/
import Derived.Test.Ytgohipfaojiilaa13j
import Derived.Test.Ytgohipfaojiilaa13a
namespace Go.Proofs.Ytgohipfaojiilaa
open Go.ChangeShapes Go.WideShapes Go.ChangeAt Go.RowKit
set_option linter.unusedVariables false
set_option linter.unusedSimpArgs false
set_option maxRecDepth 4000

def hdL (p c h s kd : Int) : List Int := [66, 71, 68, 1] ++ [IntKind.u8.wrap p, IntKind.u8.wrap c, IntKind.u8.wrap h, IntKind.u8.wrap s, IntKind.u8.wrap kd]
def enB (p c h s kd : Int) (L : List Rl) : List Int := hdL p c h s kd ++ pk (blkL L)
/-- The encoded database. -/
def encL (p c h s kd : Int) (L : List Rl) : List Int := enB p c h s kd L ++ [ckS (enB p c h s kd L) / 256, ckS (enB p c h s kd L) % 256]
theorem bys_hdL (p c h s kd : Int) : Bys (hdL p c h s kd) := by
  unfold hdL
  exact bys_app (bys_cons (by omega) (bys_cons (by omega) (bys_cons (by omega) (bys_cons (by omega) bys_nil)))) (bys_cons (u8_rng _) (bys_cons (u8_rng _) (bys_cons (u8_rng _) (bys_cons (u8_rng _) (bys_cons (u8_rng _) bys_nil)))))
theorem bys_enB (p c h s kd : Int) (L : List Rl) : Bys (enB p c h s kd L) := bys_app (bys_hdL p c h s kd) (bys_pk _ _ rfl (bys_blkL L))
theorem enB_len {p c h s kd : Int} {L : List Rl} (h1 : L.length ≤ 2500) (h2 : Rng L) : (blkL L).length ≤ 25000 ∧ (enB p c h s kd L).length ≤ 50009 := by
  have a := blkL_len h2
  have b := pk_len _ (blkL L) rfl
  refine ⟨by omega, ?_⟩
  simp only [enB, hdL, List.length_append, List.length_cons, List.length_nil]
  omega
theorem B8.new_row (w : World) (ys : List Int) : B8.IRow (w.alloc (.cells (B8.ints ys).toArray 5)) (some ⟨w.heap.size, 0, none⟩) ys := (B8.Row.new w ys).irow
set_option maxHeartbeats 1000000 in
theorem sumBytes_any (a : Option Addr) (n cap : Nat) (bs : List Int) (w : World) (hn : bs.length = n) (hle : n ≤ 1048576) (h8 : Bys bs) (hr : B8.IRow w a bs) :
    Calls Try.prog 51 #[.slice a n cap] w fun e w' => ∃ g, e = .returned (.slice (some ⟨g, 0, none⟩) 2 2) ∧ w.heap.size ≤ g ∧ B8.IRow w' (some ⟨g, 0, none⟩) [ckS bs / 256, ckS bs % 256] ∧ Below w.heap.size w w' := by
  have HC := Lib.hid (fun W (q : B8.IRow W a bs) => checkSum_any a n cap bs W hn hle h8 q)
  obtain ⟨s0, s1⟩ := ckS_bnd bs
  obtain ⟨S, hS⟩ : ∃ S, ckS bs = S := ⟨_, rfl⟩
  rw [hS] at HC s0 s1 ⊢
  obtain ⟨Lo, hLo⟩ : ∃ x, S % 256 = x := ⟨_, rfl⟩
  have t1 : IntKind.u8.wrap S = Lo := by rw [← hLo]; simp [IntKind.wrap, IntKind.bits, IntKind.signed]
  have t2 : IntKind.u8.wrap (S / 256) = S / 256 := IntWalk.u8_in _ (by omega)
  rw [hLo]
  clear hLo hS
  go_enter Try.func51, Try.ntmps51
  go_wp2_with fail
  refine (HC.out _ hr).mono ?_
  rintro e w1 ⟨rfl, rfl⟩
  go_wp2_with fail
  go_ret
  exact ⟨_, rfl, Nat.le_refl _, B8.two_row _ _ _, (Below.refl _ _).alloc (Nat.le_refl _) _⟩
end Go.Proofs.Ytgohipfaojiilaa
