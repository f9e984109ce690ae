/-
  SyncKnown.
-/
import Derived.Test.YtlijkgkkoahajaaYx0
namespace Go.Proofs.Ytlijkgkkoahajaa
open Go.RowKit

set_option linter.unusedSimpArgs false in
set_option maxHeartbeats 4000000 in
set_option maxRecDepth 100000 in
theorem syncKnown_any (w : World) : Calls Try.prog 8 #[] w fun e w' => e = .returned (.bool true) ∧ Below w.heap.size w w' := by
  go_enter Try.func8, Try.ntmps8
  go_wp2_with fail
  refine (newC_ok 128 4 3 (by decide) _).mono ?_
  rintro e w1 ⟨⟨p, rfl, lp, hp1⟩, b1⟩
  have B1 : Below w.heap.size w w1 := b1
  clear b1
  have hp1 : w1.heap[p]? = some (.cells (csC 128 3 4 false 0 0 0 0) 86 (0, 0)) := hp1
  go_wp2_with fail
  refine (kn_h1 p _ hp1).mono ?_
  rintro e w2 ⟨rfl, hp2', k2⟩
  have hp2 : w2.heap[p]? = some (.cells (csC 128 3 4 true 7 2 0 0) 86 (0, 0)) := hp2'
  have B2 : Below w.heap.size w w2 := Kp.below B1 k2 B1.size (by intro j hj; simp at hj; omega)
  clear hp1 hp2' k2 B1
  go_wp2_with fail
  refine (kn_h2 p _ hp2).mono ?_
  rintro e w3 ⟨rfl, hp3', k3⟩
  have hp3 : w3.heap[p]? = some (.cells (csC 128 3 4 true 9 1 1 0) 86 (0, 0)) := hp3'
  have B3 : Below w.heap.size w w3 := Kp.below B2 k3 B2.size (by intro j hj; simp at hj; omega)
  clear hp2 hp3' k3 B2
  go_wp2_with fail
  refine (kn_h3 p _ hp3).mono ?_
  rintro e w4 ⟨rfl, hp4', k4⟩
  have hp4 : w4.heap[p]? = some (.cells (csC 128 3 4 true 9 1 1 1) 86 (0, 0)) := hp4'
  have B4 : Below w.heap.size w w4 := Kp.below B3 k4 B3.size (by intro j hj; simp at hj; omega)
  clear hp3 hp4' k4 B3
  go_wp2_with fail
  refine (kn_h4 p _ hp4).mono ?_
  rintro e w5 ⟨rfl, hp5', k5⟩
  have hp5 : w5.heap[p]? = some (.cells (csC 128 3 4 true 9 1 1 2) 86 (0, 0)) := hp5'
  have B5 : Below w.heap.size w w5 := Kp.below B4 k5 B4.size (by intro j hj; simp at hj; omega)
  clear hp4 hp5' k5 B4
  go_wp2_with fail
  refine (kn_open p 1 2 13 true (by decide) _ hp5).mono ?_
  rintro e w6 ⟨rfl, b6⟩
  have hp6 := blk11 b6 hp5
  have B6 : Below w.heap.size w w6 := Below.andThen B5 b6
  clear hp5 b6 B5
  go_wp2_with fail
  refine (kn_open p 1 2 14 false (by decide) _ hp6).mono ?_
  rintro e w7 ⟨rfl, b7⟩
  have hp7 := blk11 b7 hp6
  have B7 : Below w.heap.size w w7 := Below.andThen B6 b7
  clear hp6 b7 B6
  go_wp2_with fail
  refine (kn_open p 1 2 8 false (by decide) _ hp7).mono ?_
  rintro e w8 ⟨rfl, b8⟩
  have hp8 := blk11 b8 hp7
  have B8 : Below w.heap.size w w8 := Below.andThen B7 b8
  clear hp7 b8 B7
  have RD := lost_any p 1 w8 (by rw [cell_of_row w8 _ 6 _ _ _ hp8]; rfl)
  go_wp2_with fail
  refine RD.mono ?_
  rintro e w8 ⟨rfl, rfl⟩
  clear RD
  have RD := wrong_any p 2 w8 (by rw [cell_of_row w8 _ 7 _ _ _ hp8]; rfl)
  go_wp2_with fail
  refine RD.mono ?_
  rintro e w8 ⟨rfl, rfl⟩
  clear RD
  go_wp2_with fail
  refine (kn_h5 p _ hp8).mono ?_
  rintro e w9 ⟨rfl, hp9', k9⟩
  have hp9 : w9.heap[p]? = some (.cells (csC 128 3 4 true 20 1 3 2) 86 (0, 0)) := hp9'
  have B9 : Below w.heap.size w w9 := Kp.below B8 k9 B8.size (by intro j hj; simp at hj; omega)
  clear hp8 hp9' k9 B8
  have RD := lost_any p 3 w9 (by rw [cell_of_row w9 _ 6 _ _ _ hp9]; rfl)
  go_wp2_with fail
  refine RD.mono ?_
  rintro e w9 ⟨rfl, rfl⟩
  clear RD
  go_wp2_with fail
  refine (kn_stamp _).mono ?_
  rintro e w10 ⟨rfl, b10⟩
  have B10 : Below w.heap.size w w10 := Below.andThen B9 b10
  clear hp9 b10 B9 lp
  have hq : ∀ W : World, (binOp .eql 39 (frV 256 6 1 0 0 0 2 0 0 0 false) (frV 256 6 1 0 0 0 2 0 0 0 false)).run Try.prog W = .ok (.bool true) W := fun W => by rw [eqlF, sameF_self]
  have hk : ((w10.alloc (.cells (frC 256 6 1 0 0 0 2 0 0 0 false) 39)).alloc (.cells (ckC false 0 0 0) 70)).heap[w10.heap.size + 1]? = some (.cells (ckC false 0 0 0) 70 (0, 0)) := at11 _ _ _ (by simp)
  have SO := set_ok (w10.heap.size + 1) false 0 0 0 65535 86399999 10 (by decide) (by decide) _ hk
  go_wp2_with fail
  refine SO.mono ?_
  rintro e w11 ⟨rfl, hk2, k11⟩
  clear SO
  have B11 : Below w.heap.size w w11 := Kp.below (Below.al (Below.al B10 (.cells (frC 256 6 1 0 0 0 2 0 0 0 false) 39)) (.cells (ckC false 0 0 0) 70)) k11 (Below.al (Below.al B10 (.cells (frC 256 6 1 0 0 0 2 0 0 0 false) 39)) (.cells (ckC false 0 0 0) 70)).size (by intro j hj; have := B10.size; simp at hj; omega)
  clear B10 k11 hk
  go_wp2_with fail
  refine (kn_at _ _ hk2).mono ?_
  rintro e w12 ⟨rfl, b12⟩
  have hk3 := blk11 b12 hk2
  have B12 : Below w.heap.size w w12 := Below.andThen B11 b12
  clear B11 b12 hk2
  have AN := at_none _ 10 65535 86399999 9 (.inr (by decide)) _ hk3
  go_wp2_with fail
  refine AN.mono ?_
  rintro e w12 ⟨rfl, rfl⟩
  clear AN hk3
  obtain ⟨wa, hwa⟩ : ∃ x, x = w12 := ⟨_, rfl⟩
  rw [← hwa] at B12 ⊢
  clear hwa
  have BA : Below w.heap.size w wa := B12
  clear B12 hq
  go_wp2_with fail
  have HG : Hid (∀ X, Below (wa.alloc (.cells #[.int .i64 (-9223372036854775808), .int .i64 (-1), .int .i64 0, .int .i64 1, .int .i64 1099511627776, .int .i64 1099511627777, .int .i64 9223372036854775807] 2)).heap.size (wa.alloc (.cells #[.int .i64 (-9223372036854775808), .int .i64 (-1), .int .i64 0, .int .i64 1, .int .i64 1099511627776, .int .i64 1099511627777, .int .i64 9223372036854775807] 2)) X → ∀ i : Nat, i < 7 → ∃ v, X.cell? ⟨wa.heap.size, i, none⟩ = some (.int .i64 v)) := fun X hX i hi => by
    have h9 : i = 0 ∨ i = 1 ∨ i = 2 ∨ i = 3 ∨ i = 4 ∨ i = 5 ∨ i = 6 := by omega
    rcases h9 with rfl | rfl | rfl | rfl | rfl | rfl | rfl <;> exact ⟨_, cl11 hX (kn_cell rfl _ _ rfl)⟩
  have BG : Below w.heap.size w (wa.alloc (.cells #[.int .i64 (-9223372036854775808), .int .i64 (-1), .int .i64 0, .int .i64 1, .int .i64 1099511627776, .int .i64 1099511627777, .int .i64 9223372036854775807] 2)) := Below.al BA _
  generalize hg : ((wa.alloc (.cells #[.int .i64 (-9223372036854775808), .int .i64 (-1), .int .i64 0, .int .i64 1, .int .i64 1099511627776, .int .i64 1099511627777, .int .i64 9223372036854775807] 2)) : World) = wg at HG BG ⊢
  obtain ⟨G, hG⟩ : ∃ G, G = wa.heap.size := ⟨_, rfl⟩
  rw [← hG] at HG ⊢
  clear hg hG BA
  go_loopw [163] (fun u wr => ∃ i : Nat, i ≤ 7 ∧ u = .int .i64 i ∧ Below w.heap.size w wr ∧ Below wg.heap.size wg wr) (fun u _ => 7 - (intOf u).toNat)
  case atStart => exact ⟨0, by decide, rfl, BG, Below.refl _ _⟩
  case round =>
    obtain ⟨i, hi, rfl, B, Bg⟩ := hrel
    by_cases hlt : i < 7
    rotate_left
    · have g1 : ¬ (i : Int) < 7 := by omega
      clear HG BG Bg
      go_wp2_with fail
      refine (newP_bad 2048 1 0 (by decide) _).mono ?_
      rintro e v1 ⟨rfl, c1⟩
      have D1 : Below w.heap.size w v1 := Below.andThen B c1
      clear c1 B
      go_wp2_with fail
      refine (newC_bad 2048 1 0 (by decide) _).mono ?_
      rintro e v2 ⟨rfl, c2⟩
      have D2 : Below w.heap.size w v2 := Below.andThen D1 c2
      clear c2 D1
      go_wp2_with fail
      refine (stop_nil _).mono ?_
      rintro e v2 ⟨rfl, rfl⟩
      go_wp2_with fail
      refine (tick_nil 1 _).mono ?_
      rintro e v3 ⟨rfl, c3⟩
      have D3 : Below w.heap.size w v3 := Below.andThen D2 c3
      clear c3 D2
      go_wp2_with fail
      refine (due_nil _).mono ?_
      rintro e v4 ⟨rfl, rfl⟩
      go_wp2_with fail
      refine (hear_nil 0 0 0 0 0 0 0 0 0 0 false 1 _).mono ?_
      rintro e v5 ⟨rfl, c5⟩
      have D5 : Below w.heap.size w v5 := Below.andThen (Below.al D3 _) c5
      clear c5 D3
      go_wp2_with fail
      refine (at_nil 1 _).mono ?_
      rintro e v5 ⟨rfl, rfl⟩
      go_wp2_with fail
      refine (start_nil 1 _).mono ?_
      rintro e v5 ⟨rfl, rfl⟩
      go_wp2_with fail
      refine (open_nil 1 _).mono ?_
      rintro e v5 ⟨rfl, rfl⟩
      go_wp2_with fail
      refine (lost_nil _).mono ?_
      rintro e v5 ⟨rfl, rfl⟩
      go_wp2_with fail
      refine (wrong_nil _).mono ?_
      rintro e v5 ⟨rfl, rfl⟩
      go_wp2_with fail
      refine (set_nil 1 1 1 _).mono ?_
      rintro e v5 ⟨rfl, rfl⟩
      go_wp2_with fail
      refine (works_any _).mono ?_
      rintro e v6 ⟨rfl, c6⟩
      go_wp2_with fail
      go_ret
      exact ⟨rfl, Below.andThen D5 c6⟩
    have g1 : (i : Int) < 7 := by omega
    obtain ⟨nv, cn⟩ := HG.out _ Bg i hlt
    obtain ⟨wb, hwb⟩ : ∃ x, x = wr := ⟨_, rfl⟩
    subst hwb
    go_wp2_with fail
    have HH : Hid (∀ X, Below (wb.alloc (.cells #[.int .u8 0, .int .u8 1, .int .u8 2, .int .u8 240, .int .u8 241, .int .u8 255] 5)).heap.size (wb.alloc (.cells #[.int .u8 0, .int .u8 1, .int .u8 2, .int .u8 240, .int .u8 241, .int .u8 255] 5)) X → ∀ i : Nat, i < 6 → ∃ v, (0 ≤ v ∧ v < 256) ∧ X.cell? ⟨wb.heap.size, i, none⟩ = some (.int .u8 v)) := fun X hX i hi => by
      have h9 : i = 0 ∨ i = 1 ∨ i = 2 ∨ i = 3 ∨ i = 4 ∨ i = 5 := by omega
      rcases h9 with rfl | rfl | rfl | rfl | rfl | rfl <;> (refine ⟨_, ?_, cl11 hX (kn_cell rfl _ _ rfl)⟩; decide)
    have BH : Below w.heap.size w (wb.alloc (.cells #[.int .u8 0, .int .u8 1, .int .u8 2, .int .u8 240, .int .u8 241, .int .u8 255] 5)) := Below.al B _
    have BK : Below wg.heap.size wg (wb.alloc (.cells #[.int .u8 0, .int .u8 1, .int .u8 2, .int .u8 240, .int .u8 241, .int .u8 255] 5)) := Below.al Bg _
    generalize hh : ((wb.alloc (.cells #[.int .u8 0, .int .u8 1, .int .u8 2, .int .u8 240, .int .u8 241, .int .u8 255] 5)) : World) = wh at HH BH BK ⊢
    obtain ⟨H, hH⟩ : ∃ H, H = wb.heap.size := ⟨_, rfl⟩
    rw [← hH] at HH ⊢
    clear hh hH B Bg cn
    go_loopw [169] (fun u2 wz => ∃ j : Nat, j ≤ 6 ∧ u2 = .int .i64 j ∧ Below w.heap.size w wz ∧ Below wg.heap.size wg wz ∧ Below wh.heap.size wh wz) (fun u2 _ => 6 - (intOf u2).toNat)
    case atStart => exact ⟨0, by decide, rfl, BH, BK, Below.refl _ _⟩
    case round =>
      obtain ⟨j, hj, rfl, B, Bg, Bh⟩ := hrel
      by_cases hjt : j < 6
      rotate_left
      · have g2 : ¬ (j : Int) < 6 := by omega
        clear HH BH BK Bh
        go_wp2_with fail
        exact ⟨⟨i + 1, by omega, by go_num, B, Bg⟩, by simp [intOf]; omega⟩
      have g2 : (j : Int) < 6 := by omega
      obtain ⟨tv, htv, ct⟩ := HH.out _ Bh j hjt
      clear BH BK
      go_wp2_with fail
      refine (syncProduces_any 128 nv tv _ 6 6 _ _ (kn_ops _ nv _ _ rfl) htv.1).mono ?_
      rintro e v1 ⟨rfl, c1⟩
      have D1 : Below w.heap.size w v1 := Below.andThen (Below.al B _) c1
      have E1 : Below wg.heap.size wg v1 := Below.andThen (Below.al Bg _) c1
      have F1 : Below wh.heap.size wh v1 := Below.andThen (Below.al Bh _) c1
      clear c1 B Bg Bh ct
      go_wp2_with fail
      refine (syncConsumes_any 2047 nv tv _ 4 4 nv _ _ (kn_hs _ nv tv htv _ _ rfl) htv.1).mono ?_
      rintro e v2 ⟨rfl, c2⟩
      have D2 : Below w.heap.size w v2 := Below.andThen (Below.al D1 _) c2
      have E2 : Below wg.heap.size wg v2 := Below.andThen (Below.al E1 _) c2
      have F2 : Below wh.heap.size wh v2 := Below.andThen (Below.al F1 _) c2
      clear c2 D1 E1 F1
      go_wp2_with fail
      exact ⟨⟨j + 1, by omega, by go_num, D2, E2, F2⟩, by simp [intOf]; omega⟩
#print axioms syncKnown_any
end Go.Proofs.Ytlijkgkkoahajaa
