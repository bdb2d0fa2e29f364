/- Contracts of chapter 13: the compressed block, of both sides. -/
import Derived.Test.Ytaimieaegfcdoaa13c
import Derived.Test.Ytaimieaegfcdoaa13d
namespace Go.Proofs.Ytaimieaegfcdoaa
open Go.ChangeShapes Go.WideShapes Go.ChangeAt Go.RowKit
set_option linter.unusedVariables false
set_option linter.unusedSimpArgs false
set_option maxRecDepth 4000

def cmL (bs : List Int) : List Int := if 60000 < bs.length then [] else pk bs
def cmC (bs : List Int) : Int := if 60000 < bs.length then 3 else 0
theorem EncI.start (w : World) : EncI (w.alloc (.cells #[.slice none 0 0] 78)) w.heap.size [] := ⟨_, Blk.new w _ _, B8.Own.nil _ _⟩
set_option maxRecDepth 8000 in
set_option maxHeartbeats 1000000 in
theorem compressed_any (a : Option Addr) (n cap : Nat) (bs : List Int) (w : World) (hn : bs.length = n) (hle : n ≤ 1048576) (hc : n ≤ cap) (h8 : Bys bs) (hr : B8.IRow w a bs) :
    Calls Try.prog 33 #[.slice a n cap] w (B8.OwnGot (pk bs) w) := by
  have hlow := B8.irow_lt hr
  have hb0 : Below w.heap.size w (w.alloc (.cells #[.slice none 0 0] 78)) := (Below.refl _ _).alloc (Nat.le_refl _) _
  have hE := Lib.hid (eachRun_any w.heap.size a n cap bs [] _ hn hle hc (by simp) h8 (EncI.start w) (hr.below hb0) hlow)
  clear hlow hr
  go_enter Try.func33, Try.ntmps33
  go_wp2_with fail
  refine (hE.out).mono ?_
  rintro e w2 ⟨rfl, hE2, hb2⟩
  (first | go_end0 | skip)
  obtain ⟨v, BE, hO⟩ := hE2
  obtain ⟨aV, kV, rfl⟩ := hO.form
  obtain ⟨x0, xf, xl⟩ := BE.one
  go_wp2_with fail
  go_ret
  exact ⟨_, rfl, by simpa using hO.mono (Nat.le_succ _), hb0.trans hb2⟩
set_option maxHeartbeats 1000000 in
theorem compressBytes_any (a : Option Addr) (n cap : Nat) (bs : List Int) (w : World) (hn : bs.length = n) (hle : n ≤ 1048576) (hc : n ≤ cap) (h8 : Bys bs) (hr : B8.IRow w a bs) :
    Calls Try.prog 14 #[.slice a n cap] w (B8.SliceGot2 (cmL bs) (cmC bs) w) := by
  subst hn
  by_cases g : 60000 < bs.length
  · have hg : (60000 : Int) < (bs.length : Int) := by omega
    go_enter Try.func14, Try.ntmps14
    go_wp2_with fail
    refine bodyPost_ret (v := .tuple #[.slice none 0 0, .int .i64 3]) (by simp [results, Try.results14, go_sem]) rfl ?_
    exact ⟨none, 0, by simp [cmL, cmC, g], .inl ⟨rfl, by simp [cmL, g]⟩, Below.refl _ _⟩
  · have hg : ¬ (60000 : Int) < (bs.length : Int) := by omega
    have H := Lib.hid (compressed_any a bs.length cap bs w rfl hle hc h8 hr)
    go_enter Try.func14, Try.ntmps14
    go_wp2_with fail
    refine (H.out).mono ?_
    rintro e w2 ⟨v, rfl, hO, hb2⟩
    obtain ⟨aV, kV, rfl⟩ := hO.form
    go_wp2_with fail
    refine bodyPost_ret (v := .tuple #[.slice aV (pk bs).length kV, .int .i64 0]) (by simp [results, Try.results14, go_sem]) rfl ?_
    exact ⟨aV, kV, by simp [cmL, cmC, g], by simpa [cmL, g] using hO.osl, hb2⟩
set_option maxHeartbeats 1000000 in
theorem specCompressBytes_any (a : Option Addr) (n cap : Nat) (bs : List Int) (w : World) (hn : bs.length = n) (hle : n ≤ 1048576) (h8 : Bys bs) (hr : B8.IRow w a bs) :
    Calls Try.prog 13 #[.slice a n cap] w (B8.SliceGot2 (cmL bs) (cmC bs) w) := by
  subst hn
  by_cases g : 60000 < bs.length
  · have hg : (60000 : Int) < (bs.length : Int) := by omega
    go_enter Try.func13, Try.ntmps13
    go_wp2_with fail
    refine bodyPost_ret (v := .tuple #[.slice none 0 0, .int .i64 3]) (by simp [results, Try.results13, go_sem]) rfl ?_
    exact ⟨none, 0, by simp [cmL, cmC, g], .inl ⟨rfl, by simp [cmL, g]⟩, Below.refl _ _⟩
  · have hg : ¬ (60000 : Int) < (bs.length : Int) := by omega
    have H := Lib.hid (l13Pack_any a bs.length cap bs w rfl hle h8 hr)
    go_enter Try.func13, Try.ntmps13
    go_wp2_with fail
    refine (H.out).mono ?_
    rintro e w2 ⟨v, rfl, hO, hb2⟩
    obtain ⟨aV, kV, rfl⟩ := hO.form
    go_wp2_with fail
    refine bodyPost_ret (v := .tuple #[.slice aV (pk bs).length kV, .int .i64 0]) (by simp [results, Try.results13, go_sem]) rfl ?_
    exact ⟨aV, kV, by simp [cmL, cmC, g], by simpa [cmL, g] using hO.osl, hb2⟩
end Go.Proofs.Ytaimieaegfcdoaa
