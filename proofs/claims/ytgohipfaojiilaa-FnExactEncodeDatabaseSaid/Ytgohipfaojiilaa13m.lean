/- Contracts of chapter 13: the program's encoding of a database. -/
import Derived.Test.Ytgohipfaojiilaa13k
import Derived.Test.Ytgohipfaojiilaa13d
import Derived.Deep.LoopGhost
import Derived.Lib.SmallJoins
namespace Go.Proofs.Ytgohipfaojiilaa
open Go.ChangeShapes Go.WideShapes Go.ChangeAt Go.RowKit
set_option linter.unusedVariables false
set_option linter.unusedSimpArgs false
set_option maxRecDepth 4000

theorem KeepE.blk {E B g : Nat} {w w' : World} {vs : Array Value} {t : TypeId} (h : KeepE E B w w') (hB : Blk w g vs t) (h1 : g < B) (h2 : g ≠ E) : Blk w' g vs t := (h.block g hB.lt h1 h2).trans hB
theorem KeepE.into {b E B : Nat} {w w1 w2 : World} (h : Below b w w1) (k : KeepE E B w1 w2) (h1 : b ≤ B) (h2 : b ≤ E) (h3 : b ≤ w1.heap.size) : Below b w w2 :=
  ⟨k.os.trans h.os, k.tape.trans h.tape, k.output.trans h.output, Nat.le_trans h.size k.size, fun i hi => (k.block i (by omega) (by omega) (by omega)).trans (h.block i hi)⟩
theorem B8.Own.formC {w : World} {base : Nat} {v : Value} {xs : List Int} (h : B8.Own w base v xs) : ∃ a k, v = .slice a xs.length k ∧ xs.length ≤ k := by
  rcases h.2 with ⟨h1, h2⟩ | ⟨g, cap, cur, h1, hb, hh, hc, _⟩
  · exact ⟨none, 0, by rw [h1, h2], by omega⟩
  · exact ⟨some ⟨g, 0, none⟩, cap, h1, by simpa using hc⟩
theorem B8.four_row (w : World) : B8.IRow (w.alloc (.cells (B8.ints [66, 71, 68, 1]).toArray 5 (4, 5))) (some ⟨w.heap.size, 0, none⟩) [66, 71, 68, 1] := fun i hi => by
  refine ⟨_, _, rfl, ?_⟩
  rw [Nat.zero_add, World.cell?_alloc_mark]
  have hi2 : i < 4 := by simpa using hi
  match i, hi2 with
  | 0, _ => rfl
  | 1, _ => rfl
  | 2, _ => rfl
  | 3, _ => rfl
set_option maxRecDepth 8000 in
set_option maxHeartbeats 4000000 in
theorem encoded_any (p c h s kd : Int) (a : Option Addr) (k : Nat) (L : List Rl) (w : World) (hle : L.length ≤ 2500) (hrg : Rng L) (HO : OX w a L) :
    Calls Try.prog 24 #[.agg #[.int .i64 p, .int .i64 c, .int .i64 h, .int .i64 s, .int .i64 kd, .slice a L.length k]] w (B8.OwnGot (encL p c h s kd L) w) := by
  obtain ⟨hbl, hel⟩ := enB_len (p := p) (c := c) (h := h) (s := s) (kd := kd) hle hrg
  have HRG := Lib.hid hrg
  have HOX := Lib.hid HO
  obtain ⟨BD, B1, B2_, hb, hz⟩ := three_new w #[.int .i64 p, .int .i64 c, .int .i64 h, .int .i64 s, .int .i64 kd, .slice a L.length k] #[.slice none 0 0] #[.slice none 0 0] 34 76 76
  have hE0 : EncB (((w.alloc (.cells #[.int .i64 p, .int .i64 c, .int .i64 h, .int .i64 s, .int .i64 kd, .slice a L.length k] 34)).alloc (.cells #[.slice none 0 0] 76)).alloc (.cells #[.slice none 0 0] 76)) (w.heap.size + 1) (w.heap.size + 3) [] := ⟨_, by omega, by rw [hz]; omega, B1, B8.Own.nil _ _⟩
  clear HO hrg B1
  obtain ⟨x0, x1, x2, x3, x4, x5, xf, xl⟩ := BD.six
  go_enter Try.func24, Try.ntmps24
  go_wp2_with fail
  clear x0 x1 x2 x3 x4 x5 xf xl
  generalize (((w.alloc (.cells #[.int .i64 p, .int .i64 c, .int .i64 h, .int .i64 s, .int .i64 kd, .slice a L.length k] 34)).alloc (.cells #[.slice none 0 0] 76)).alloc (.cells #[.slice none 0 0] 76)) = v0 at *
  have hleI : (L.length : Int) ≤ 2500 := by omega
  go_loopg [11] L.length (fun m v wr => ∃ i : Nat, i ≤ L.length ∧ m = L.length - i ∧ v = .int .i64 (i : Int) ∧ EncB wr (w.heap.size + 1) (w.heap.size + 3) (blkL (L.take i)) ∧ Blk wr w.heap.size #[.int .i64 p, .int .i64 c, .int .i64 h, .int .i64 s, .int .i64 kd, .slice a L.length k] 34 ∧ Blk wr (w.heap.size + 2) #[.slice none 0 0] 76 ∧ Below w.heap.size w wr)
  case atStart => exact ⟨0, by omega, by omega, rfl, by simpa [blkL] using hE0, BD, B2_, hb⟩
  case round =>
    clear hE0 BD B2_ hb hz
    obtain ⟨i, hi, hm, rfl, hE, BD, B2_, hb⟩ := hrel
    by_cases hlt : i < L.length
    · have hlt' : (i : Int) < (L.length : Int) := by omega
      have i0 : (0 : Int) ≤ (i : Int) := by omega
      obtain ⟨⟨xn, xd⟩, hx⟩ : ∃ x, L[i]? = some x := ⟨_, List.getElem?_eq_getElem hlt⟩
      have hxr := HRG.out _ (List.mem_of_getElem? hx)
      obtain ⟨g0, rfl, XR⟩ := (HOX.out.below hb).row hlt
      obtain ⟨u0, u1⟩ := XRow.two XR i (xn, xd) hx
      dsimp only at u0 u1 hxr
      have hal : Below wr.heap.size wr (wr.alloc (.cells #[.int .i64 xn, .int .i64 xd] 66)) := (Below.refl _ _).alloc (Nat.le_refl _) _
      have hbt := blkL_take L i _ hx
      have hbi : (blkL (L.take i)).length ≤ 25000 := by
        have := blkL_len (L := L.take i) (fun r hr => HRG.out r (List.mem_of_mem_take hr))
        rw [List.length_take] at this
        omega
      have H1 := Lib.hid (writeEntry_any (w.heap.size + 1) (w.heap.size + 3) xn xd (blkL (L.take i)) _ hxr (by omega) (hE.below hal))
      have hbs := hb.size
      have HB := Lib.hid (chain hb hal)
      have HBD := Lib.hid (BD.below hal)
      have HB2 := Lib.hid (B2_.below hal)
      have HBT := Lib.hid hbt
      have hzs : (wr.alloc (.cells #[.int .i64 xn, .int .i64 xd] 66)).heap.size = wr.heap.size + 1 := by simp
      have HZS := Lib.hid hzs
      clear hal hx hxr hbt XR hzs hE
      go_wp2_with fail
      refine H1.out.mono ?_
      rintro e w5 ⟨rfl, hE5, hk5, -⟩
      clear u0 u1
      (first | go_end0 | skip)
      go_wp2_with fail
      go_roundg (L.length - (i + 1))
      case measure => omega
      case rel => exact ⟨i + 1, by omega, rfl, by go_num, by rw [HBT.out]; exact hE5, KeepE.blk hk5 HBD.out (by omega) (by omega), KeepE.blk hk5 HB2.out (by omega) (by omega), KeepE.into HB.out hk5 (by omega) (by omega) (by rw [HZS.out]; omega)⟩
    · obtain rfl : i = L.length := by omega
      rw [List.take_length] at hE
      obtain ⟨v1, hq1, hq2, B1, hO1⟩ := hE
      obtain ⟨a1, k1, rfl, hk1⟩ := hO1.formC
      obtain ⟨bl, hbl2⟩ : ∃ bl, blkL L = bl := ⟨_, rfl⟩
      have h8 : Bys bl := by rw [← hbl2]; exact bys_blkL L
      have HRL : ∀ b o, a1 = some ⟨b, o, none⟩ → 0 < bl.length → b < wr.heap.size + 1 ∧ b ≠ w.heap.size + 2 := fun b o e hp => by
        rw [hbl2] at hO1
        rcases hO1.osl with ⟨q, rfl⟩ | ⟨g, q, q1, q2, _⟩
        · simp at hp
        · rw [q] at e
          cases e
          omega
      have RW : B8.IRow wr a1 bl := by
        rw [hbl2] at hO1
        exact hO1.osl.irow
      have hlen : (hdL p c h s kd ++ pk bl).length ≤ 50009 := by rw [← hbl2]; exact hel
      have henc : encL p c h s kd L = hdL p c h s kd ++ pk bl ++ [ckS (hdL p c h s kd ++ pk bl) / 256, ckS (hdL p c h s kd ++ pk bl) % 256] := by rw [encL, enB, hbl2]
      have hb8e : Bys (hdL p c h s kd ++ pk bl) := by have := bys_enB p c h s kd L; rwa [enB, hbl2] at this
      have hbl3 : bl.length ≤ 25000 := by rw [← hbl2]; exact hbl
      rw [hbl2] at B1 hk1
      clear hO1 hbl2 hbl hel
      have HENC := Lib.hid henc
      clear henc HRG HOX
      have hbs := hb.size
      have hw3 : w.heap.size + 2 < wr.heap.size := B2_.lt
      have BV := Blk.new wr #[.int .i64 p, .int .i64 c, .int .i64 h, .int .i64 s] 31
      have hal : Below wr.heap.size wr (wr.alloc (.cells #[.int .i64 p, .int .i64 c, .int .i64 h, .int .i64 s] 31)) := (Below.refl _ _).alloc (Nat.le_refl _) _
      have hvs : (wr.alloc (.cells #[.int .i64 p, .int .i64 c, .int .i64 h, .int .i64 s] 31)).heap.size = wr.heap.size + 1 := by simp
      have hE : EncB (wr.alloc (.cells #[.int .i64 p, .int .i64 c, .int .i64 h, .int .i64 s] 31)) (w.heap.size + 2) (wr.heap.size + 1) [] := ⟨_, by omega, by rw [hvs]; omega, B2_.below hal, B8.Own.nil _ _⟩
      have HLOW := Lib.hid HRL
      have kc : (convert 28 28 (.slice (some ⟨wr.heap.size + 1, 0, none⟩) 4 4)).run Try.prog ((wr.alloc (.cells #[.int .i64 p, .int .i64 c, .int .i64 h, .int .i64 s] 31)).alloc (.cells #[.int .u8 66, .int .u8 71, .int .u8 68, .int .u8 1] 5)) = .ok (.slice (some ⟨wr.heap.size + 1, 0, none⟩) 4 4) ((wr.alloc (.cells #[.int .i64 p, .int .i64 c, .int .i64 h, .int .i64 s] 31)).alloc (.cells #[.int .u8 66, .int .u8 71, .int .u8 68, .int .u8 1] 5 (4, 5))) :=
        Go.Joins.run_convert_bytes_const_at (P := Try.prog) (wr.alloc (.cells #[.int .i64 p, .int .i64 c, .int .i64 h, .int .i64 s] 31)) 28 5 #[.int .u8 66, .int .u8 71, .int .u8 68, .int .u8 1] 4 4 (wr.heap.size + 1) hvs.symm Try.underlying28 Try.underlying5
      obtain ⟨x0, x1, x2, x3, x4, x5, xf, xl⟩ := BD.six
      go_wp2_with fail
      clear x0 x1 x2 x3 x4 x5 xf xl
      clear HRL B2_ kc
      replace BD := BD.below hal
      replace B1 := B1.below hal
      replace RW := RW.below hal
      replace hb := chain hb hal
      clear hal
      generalize (wr.alloc (.cells #[.int .i64 p, .int .i64 c, .int .i64 h, .int .i64 s] 31)) = wv at *
      obtain ⟨B2, hB2⟩ : ∃ x, wr.heap.size + 1 = x := ⟨_, rfl⟩
      rw [hB2] at hvs hE HLOW
      obtain ⟨VB, hVB⟩ : ∃ x, wr.heap.size = x := ⟨_, rfl⟩
      rw [hVB] at hw3 hbs hB2 BV
      (try rw [hVB])
      (try rw [hB2])
      have hal : Below wv.heap.size wv (wv.alloc (.cells (B8.ints [66, 71, 68, 1]).toArray 5 (4, 5))) := (Below.refl _ _).alloc (Nat.le_refl _) _
      have HN := B8.four_row wv
      have hzz : wv.heap.size < (wv.alloc (.cells (B8.ints [66, 71, 68, 1]).toArray 5 (4, 5))).heap.size := by simp
      replace BD := BD.below hal
      replace BV := BV.below hal
      replace B1 := B1.below hal
      replace RW := RW.below hal
      replace hE := hE.below hal
      replace hb := chain hb hal
      have H1 := write_any (w.heap.size + 2) B2 wv.heap.size 0 4 4 [66, 71, 68, 1] [] _ rfl (by simp; try omega) hE HN
      clear hal HN
      rw [hvs] at H1
      clear hvs
      refine H1.mono ?_
      rintro e w6 ⟨rfl, hE1, hk, -⟩
      clear H1
      (first | go_end0 | skip)
      replace BD := (KeepE.blk hk BD (by omega) (by omega))
      replace BV := (KeepE.blk hk BV (by omega) (by omega))
      replace B1 := (KeepE.blk hk B1 (by omega) (by omega))
      replace RW := RW.keep HLOW.out hk
      replace hb := KeepE.into hb hk (by omega) (by omega) hb.size
      replace hE := hE1
      clear hk hzz
      clear hE1
      obtain ⟨x0, x1, x2, x3, x4, x5, xf, xl⟩ := BD.six
      obtain ⟨v0, v1, v2, v3, vf, vl⟩ := BV.four
      go_wp2_with fail
      clear x0 x1 x2 x3 x4 x5 xf xl v0 v1 v2 v3 vf vl
      have hal : Below w6.heap.size w6 (w6.alloc (.cells (B8.ints [IntKind.u8.wrap p, IntKind.u8.wrap c, IntKind.u8.wrap h, IntKind.u8.wrap s, IntKind.u8.wrap kd]).toArray 5)) := (Below.refl _ _).alloc (Nat.le_refl _) _
      have HN := B8.new_row w6 [IntKind.u8.wrap p, IntKind.u8.wrap c, IntKind.u8.wrap h, IntKind.u8.wrap s, IntKind.u8.wrap kd]
      have hzz : w6.heap.size < (w6.alloc (.cells (B8.ints [IntKind.u8.wrap p, IntKind.u8.wrap c, IntKind.u8.wrap h, IntKind.u8.wrap s, IntKind.u8.wrap kd]).toArray 5)).heap.size := by simp
      replace BD := BD.below hal
      replace BV := BV.below hal
      replace B1 := B1.below hal
      replace RW := RW.below hal
      replace hE := hE.below hal
      replace hb := chain hb hal
      have H1 := write_any (w.heap.size + 2) B2 w6.heap.size 0 5 5 [IntKind.u8.wrap p, IntKind.u8.wrap c, IntKind.u8.wrap h, IntKind.u8.wrap s, IntKind.u8.wrap kd] ([] ++ [66, 71, 68, 1]) _ rfl (by simp; try omega) hE HN
      clear hal HN
      refine H1.mono ?_
      rintro e w7 ⟨rfl, hE2, hk, -⟩
      clear H1
      (first | go_end0 | skip)
      replace BD := (KeepE.blk hk BD (by omega) (by omega))
      replace BV := (KeepE.blk hk BV (by omega) (by omega))
      replace B1 := (KeepE.blk hk B1 (by omega) (by omega))
      replace RW := RW.keep HLOW.out hk
      replace hb := KeepE.into hb hk (by omega) (by omega) hb.size
      replace hE := hE2
      clear hk hzz
      clear hE2
      obtain ⟨y0, yf, yl⟩ := B1.one
      have HR := Lib.hid (eachRun_any (w.heap.size + 2) B2 a1 bl.length k1 bl ([] ++ [66, 71, 68, 1] ++ [IntKind.u8.wrap p, IntKind.u8.wrap c, IntKind.u8.wrap h, IntKind.u8.wrap s, IntKind.u8.wrap kd]) w7 rfl (by omega) hk1 (by simp) h8 hE RW HLOW.out)
      go_wp2_with fail
      clear y0 yf yl
      refine HR.out.mono ?_
      rintro e w8 ⟨rfl, hE8, hk, -⟩
      clear HR
      (first | go_end0 | skip)
      have hb8 := KeepE.into hb hk (by omega) (by omega) hb.size
      rw [show [] ++ [66, 71, 68, 1] ++ [IntKind.u8.wrap p, IntKind.u8.wrap c, IntKind.u8.wrap h, IntKind.u8.wrap s, IntKind.u8.wrap kd] ++ pk bl = hdL p c h s kd ++ pk bl from rfl] at hE8
      clear hk hE BD BV B1 RW h8 HLOW hb
      obtain ⟨en, hen⟩ : ∃ en, hdL p c h s kd ++ pk bl = en := ⟨_, rfl⟩
      rw [hen] at hE8 hlen hb8e
      have HEN := Lib.hid hen
      clear hen
      obtain ⟨v2, hq3, hq4, BE, hO2⟩ := id hE8
      obtain ⟨a2, k2, rfl, hk2⟩ := hO2.formC
      have HSB := Lib.hid (sumBytes_any a2 en.length k2 en w8 rfl (by omega) hb8e hO2.osl.irow)
      obtain ⟨y0, yf, yl⟩ := BE.one
      go_wp2_with fail
      refine HSB.out.mono ?_
      rintro e w9 ⟨g3, rfl, hg3, R3, hb9⟩
      clear HSB y0 yf yl BE hO2
      have HW := Lib.hid (write_any (w.heap.size + 2) B2 g3 0 2 2 [ckS en / 256, ckS en % 256] en w9 rfl (by omega) (hE8.below hb9) R3)
      have hb10 := chain hb8 hb9
      clear hE8 R3 hb9
      go_wp2_with fail
      refine HW.out.mono ?_
      rintro e w10 ⟨rfl, hE10, hk, -⟩
      clear HW
      (first | go_end0 | skip)
      have hbF := KeepE.into hb10 hk (by omega) (by omega) hb10.size
      obtain ⟨v3, hq5, hq6, BE, hO3⟩ := hE10
      obtain ⟨a3, k3, rfl⟩ := hO3.form
      obtain ⟨y0, yf, yl⟩ := BE.one
      go_wp2_with fail
      go_ret
      exact ⟨_, rfl, by rw [HENC.out, HEN.out]; have hq := hO3.mono (Nat.le_trans (Nat.le_add_right _ 2) (Nat.le_of_lt hq5)); rw [show (en ++ [ckS en / 256, ckS en % 256]).length = en.length + 2 by simp] at hq; exact hq, hbF⟩
end Go.Proofs.Ytgohipfaojiilaa
