/-
  The walk of FlashKnown.
-/
import Derived.Test.YtdohjolgcmokhaaFp
namespace Go.Proofs.Ytdohjolgcmokhaa
open Go.RowKit

set_option linter.unusedSimpArgs false in
set_option maxHeartbeats 8000000 in
set_option maxRecDepth 100000 in
theorem flashKnown_any (w : World) :
    Calls Try.prog 7 #[] w fun e w' => e = .returned (.bool true) ∧ Below w.heap.size w w' := by
  have NW : ∀ w : World, Calls Try.prog 10 #[.int .i64 2] w _ := fun w => new_ok 2 (by decide) (by decide) w
  have EQ : ∀ w, (binOp .eql 32 (.agg #[.int .u8 255, .int .u8 255, .int .u8 255, .int .u8 255]) (.agg #[.int .u8 255, .int .u8 255, .int .u8 255, .int .u8 255])).run Try.prog w = .ok (.bool true) w := fun w => eql4 w 255 255 255 255 255 255 255 255
  go_enter Try.func7, Try.ntmps7
  go_wp2_with fail
  refine (NW _).mono ?_
  rintro e w1 ⟨⟨p, B, rfl, hp, hB, hs1⟩, hb1⟩
  clear NW
  have lt1 := hs1.lt
  have K1 : KI w (w1.alloc (.cells (w4 1 2 3 4) 32)) p B w1.heap.size (newS 2) := ⟨hs1.next (Below.al (Below.refl _ _) _), heap_alloc_last w1 _, Below.al hb1 _, hp, hB, hb1.size, by omega, by omega⟩
  obtain ⟨t0, t1, t2, t3⟩ := (K1).cells
  go_wp2_with fail
  refine (kw K1 ⟨by decide, by decide, by decide, by decide⟩ 2 0 1 2 3 4 (fun n hn => by simp at hn; omega) (FS.write_bad (E := 50) (by decide) (by decide))).mono ?_
  rintro e w11 ⟨rfl, q11, K11⟩
  clear t0 t1 t2 t3
  obtain ⟨t0, t1, t2, t3⟩ := (K11).cells
  go_wp2_with fail
  refine (kw K11 ⟨by decide, by decide, by decide, by decide⟩ 0 256 1 2 3 4 (fun n hn => by simp at hn; omega) (FS.write_bad (E := 50) (by decide) (by decide))).mono ?_
  rintro e w12 ⟨rfl, q12, K12⟩
  clear t0 t1 t2 t3
  obtain ⟨t0, t1, t2, t3⟩ := (K12).cells
  go_wp2_with fail
  refine (kw K12 ⟨by decide, by decide, by decide, by decide⟩ 0 (-1) 1 2 3 4 (fun n hn => by simp at hn; omega) (FS.write_bad (E := 50) (by decide) (by decide))).mono ?_
  rintro e w13 ⟨rfl, q13, K13⟩
  clear t0 t1 t2 t3
  go_wp2_with fail
  refine (ke K13 ⟨by decide, by decide, by decide, by decide⟩ (-1) (FS.erase_bad (E := 50) (by decide) (by decide))).mono ?_
  rintro e w14 ⟨rfl, q14, K14⟩
  go_wp2_with fail
  refine (ke K14 ⟨by decide, by decide, by decide, by decide⟩ 2 (FS.erase_bad (E := 50) (by decide) (by decide))).mono ?_
  rintro e w15 ⟨rfl, q15, K15⟩
  obtain ⟨t0, t1, t2, t3⟩ := (K15).cells
  go_wp2_with fail
  refine (kw K15 ⟨by decide, by decide, by decide, by decide⟩ 1 255 1 2 3 4 (fun n hn => by simp at hn; omega) (ke7)).mono ?_
  rintro e w16 ⟨rfl, q16, K16⟩
  clear t0 t1 t2 t3
  go_wp2_with fail
  refine (krb K16 2 (E := 50) (by decide) (by decide)).mono ?_
  rintro e w16 ⟨rfl, rfl⟩
  go_wp2_with fail
  refine (kwb K16 0 256 (E := 50) (by decide) (by decide)).mono ?_
  rintro e w17 ⟨rfl, q17, K17⟩
  go_wp2_with fail
  refine (kc (K17.al _) 1 (s' := kS2) rfl).mono ?_
  rintro e w18 ⟨rfl, q18, K18⟩
  obtain ⟨t0, t1, t2, t3⟩ := (K18).cells
  go_wp2_with fail
  refine (kw K18 ⟨by decide, by decide, by decide, by decide⟩ 0 256 1 2 3 4 (fun n hn => by simp at hn; omega) (FS.write_bad (E := 50) (by decide) (by decide))).mono ?_
  rintro e w19 ⟨rfl, q19, K19⟩
  clear t0 t1 t2 t3
  go_wp2_with fail
  refine (kw K19 ⟨by decide, by decide, by decide, by decide⟩ 1 255 2 0 0 0 (fun n hn => by simp at hn; omega) (ke12)).mono ?_
  rintro e w20 ⟨rfl, q20, K20⟩
  go_wp2_with fail
  refine (koff K20 (x := false) rfl).mono ?_
  rintro e w20 ⟨rfl, rfl⟩
  go_wp2_with fail
  refine (ke K20 ⟨by decide, by decide, by decide, by decide⟩ 0 ke14).mono ?_
  rintro e w21 ⟨rfl, q21, K21⟩
  go_wp2_with fail
  refine (kw K21 ⟨by decide, by decide, by decide, by decide⟩ 0 0 0 0 0 0 (fun n hn => by simp at hn; omega) (ke15)).mono ?_
  rintro e w22 ⟨rfl, q22, K22⟩
  go_wp2_with fail
  refine (koff K22 (x := true) rfl).mono ?_
  rintro e w22 ⟨rfl, rfl⟩
  go_wp2_with fail
  refine (ke K22 ⟨by decide, by decide, by decide, by decide⟩ 1 (FS.erase_bad (E := 7) (by decide) (by decide))).mono ?_
  rintro e w23 ⟨rfl, q23, K23⟩
  obtain ⟨t0, t1, t2, t3⟩ := (K23).cells
  go_wp2_with fail
  refine (kw K23 ⟨by decide, by decide, by decide, by decide⟩ 9 9 1 2 3 4 (fun n hn => by simp at hn; omega) (FS.write_bad (E := 7) (by decide) (by decide))).mono ?_
  rintro e w24 ⟨rfl, q24, K24⟩
  clear t0 t1 t2 t3
  go_wp2_with fail
  refine (krb K24 0 (E := 7) (by decide) (by decide)).mono ?_
  rintro e w24 ⟨rfl, rfl⟩
  go_wp2_with fail
  refine (kwb K24 9 0 (E := 7) (by decide) (by decide)).mono ?_
  rintro e w25 ⟨rfl, q25, K25⟩
  have lt20 := ((K25.al (.cells #[.int .u8 0, .int .u8 0, .int .u8 0, .int .u8 0] 32))).f.lt
  go_wp2_with fail
  refine (kcp (K25.al _)).mono ?_
  rintro e w26 ⟨p2, B2, c2, rfl, hp2, hB2, G26, b26, K26⟩
  go_wp2_with fail
  refine (kon K26 (s' := kS5) rfl).mono ?_
  rintro e w27 ⟨rfl, q27, K27⟩
  have G27 := G26.kp q27 (by simp; omega) (by simp; omega)
  have WD : Calls Try.prog 20 #[.pointer (some ⟨p, 0, none⟩), .int .i64 0, .int .i64 0] w27 _ := word_ok K27.f 0 0 (by decide) (by decide) rfl
  rw [kWd] at WD
  go_wp2_with fail
  refine WD.mono ?_
  rintro e w28 ⟨rfl, b28⟩
  clear WD
  have K28 := K27.next b28
  have G28 := G27.next b28
  have lt28 := K28.f.lt
  have X28 := heap_alloc_last w28 (.cells (w4 255 255 255 255) 32)
  have G28a := G28.next (Below.al (Below.refl _ _) (.cells (w4 255 255 255 255) 32))
  go_wp2_with fail
  refine (kc (K28.al _) 0 (s' := kS5a) rfl).mono ?_
  rintro e w29 ⟨rfl, q29, K29⟩
  go_wp2_with fail
  refine (kc K29 (-5) (s' := kS5) rfl).mono ?_
  rintro e w30 ⟨rfl, q30, K30⟩
  have X29 := (q29.block w28.heap.size (by simp) (by simp; omega)).trans X28
  have X30 := (q30.block w28.heap.size (lt_of_heap X29) (by simp; omega)).trans X29
  have G30 := (G28a.kp q29 (by simp; omega) (by simp; omega)).kp q30 (by simp; omega) (by simp; omega)
  have x0 : w30.cell? ⟨w28.heap.size, 0, none⟩ = some (.int .u8 255) := by rw [cell_of_row w30 _ _ _ _ _ X30]; rfl
  have x1 : w30.cell? ⟨w28.heap.size, 1, none⟩ = some (.int .u8 255) := by rw [cell_of_row w30 _ _ _ _ _ X30]; rfl
  have x2 : w30.cell? ⟨w28.heap.size, 2, none⟩ = some (.int .u8 255) := by rw [cell_of_row w30 _ _ _ _ _ X30]; rfl
  have x3 : w30.cell? ⟨w28.heap.size, 3, none⟩ = some (.int .u8 255) := by rw [cell_of_row w30 _ _ _ _ _ X30]; rfl
  have GO : Calls Try.prog 22 #[.pointer (some ⟨p2, 0, none⟩)] w30 _ := off_any G30
  clear X28 X29 X30
  go_wp2_with fail
  refine GO.mono ?_
  rintro e w30 ⟨rfl, rfl⟩
  clear GO
  go_wp2_with fail
  refine (ke K30 ⟨by decide, by decide, by decide, by decide⟩ 1 ke27).mono ?_
  rintro e w31 ⟨rfl, q31, K31⟩
  clear x0 x1 x2 x3
  go_wp2_with fail
  refine (kst K31 (x := 3) rfl).mono ?_
  rintro e w31 ⟨rfl, rfl⟩
  go_wp2_with fail
  refine (kc K31 0 (s' := kS7) rfl).mono ?_
  rintro e w32 ⟨rfl, q32, K32⟩
  have lt30 := K32.f.lt
  have lc30 := lt_of_heap K32.c
  have sz30 := K32.b.size
  go_wp2_with fail
  refine (kcp K32).mono ?_
  rintro e w33 ⟨p3, B3, c3, rfl, hp3, hB3, H33, b33, K33⟩
  have HE := erase_any H33 ⟨by decide, by decide, by decide, by decide⟩ 0
  rw [ke31] at HE
  go_wp2_with fail
  refine HE.mono ?_
  rintro e w34 ⟨rfl, H34, q34⟩
  clear HE
  have K34 := K33.other q34 (by omega) (by omega) (by omega) (by omega) (by omega) (by omega) (by omega) (by omega)
  go_wp2_with fail
  refine (koff K34 (x := false) rfl).mono ?_
  rintro e w34 ⟨rfl, rfl⟩
  go_wp2_with fail
  refine (kw K34 ⟨by decide, by decide, by decide, by decide⟩ 0 3 255 255 255 255 (fun n hn => by simp at hn; omega) (ke33)).mono ?_
  rintro e w35 ⟨rfl, q35, K35⟩
  go_wp2_with fail
  refine (new_bad 0 _ (by decide)).mono ?_
  rintro e w35 ⟨rfl, rfl⟩
  go_wp2_with fail
  refine (new_bad 65 _ (by decide)).mono ?_
  rintro e w35 ⟨rfl, rfl⟩
  have N64 : Calls Try.prog 10 #[.int .i64 64] w35 _ := new_ok 64 (by decide) (by decide) w35
  go_wp2_with fail
  refine N64.mono ?_
  rintro e w36 ⟨⟨p4, B4, rfl, hp4, hB4, M36⟩, b36⟩
  clear N64
  have K36 := K35.next b36
  go_wp2_with fail
  refine (read_nil _ 0).mono ?_
  rintro e w36 ⟨rfl, rfl⟩
  go_wp2_with fail
  refine (word_nil _ 0 0).mono ?_
  rintro e w37 ⟨rfl, b37⟩
  have K37 := K36.next b37
  have M37 := M36.next b37
  have K37a := K37.al (.cells (w4 0 0 0 0) 32)
  have M37a := M37.next (Below.al (Below.refl _ _) (.cells (w4 0 0 0 0) 32))
  go_wp2_with fail
  refine (cut_nil _ 1).mono ?_
  rintro e wa ⟨rfl, rfl⟩
  go_wp2_with fail
  refine (on_nil _).mono ?_
  rintro e wa ⟨rfl, rfl⟩
  have SE : Calls Try.prog 27 #[.pointer (some ⟨p4, 0, none⟩)] _ _ := sectors_any M37a
  go_wp2_with fail
  refine SE.mono ?_
  rintro e wa ⟨rfl, rfl⟩
  clear SE
  obtain ⟨t0, t1, t2, t3⟩ := K37a.cells
  go_wp2_with fail
  refine (write_nil _ 0 0 1 2 3 4).mono ?_
  rintro e wb ⟨rfl, bb⟩
  clear t0 t1 t2 t3
  have KB := K37a.b
  have BB : Below w.heap.size w wb := Below.andThen KB bb
  go_wp2_with fail
  refine (erase_nil _ 0).mono ?_
  rintro e wc ⟨rfl, bc⟩
  have BC : Below w.heap.size w wc := Below.andThen BB bc
  go_wp2_with fail
  refine (off_nil _).mono ?_
  rintro e wc ⟨rfl, rfl⟩
  go_wp2_with fail
  refine (steps_nil _).mono ?_
  rintro e wc ⟨rfl, rfl⟩
  go_wp2_with fail
  refine (sectors_nil _).mono ?_
  rintro e wc ⟨rfl, rfl⟩
  go_wp2_with fail
  refine (copy_nil _).mono ?_
  rintro e wc ⟨rfl, rfl⟩
  go_wp2_with fail
  refine (works_any _).mono ?_
  rintro e wd ⟨rfl, bd⟩
  have BD : Below w.heap.size w wd := Below.andThen BC bd
  go_wp2_with fail
  go_ret
  exact ⟨rfl, BD⟩
#print axioms flashKnown_any
end Go.Proofs.Ytdohjolgcmokhaa
