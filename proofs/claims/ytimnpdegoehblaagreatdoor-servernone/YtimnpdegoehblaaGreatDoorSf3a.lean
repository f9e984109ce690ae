/-
  The walk of the reading of a beginning with a size.
  The walk of the reading of a quick beginning, its number told.
  The walk of the reading of a quick beginning, its number not told.
-/
import Derived.Test.YtimnpdegoehblaaGreatDoorSf3
namespace Go.Proofs.YtimnpdegoehblaaGreatDoor
open Go.RowKit

set_option linter.unusedSimpArgs false in
set_option maxHeartbeats 4000000 in
set_option maxRecDepth 100000 in
theorem readBegin_tf (b0 b1 b2 b3 b4 b5 b6 b7 : Int) (h0 : 0 ≤ b0 ∧ b0 < 256) (h1 : 0 ≤ b1 ∧ b1 < 256) (h2 : 0 ≤ b2 ∧ b2 < 256) (h4 : 0 ≤ b4 ∧ b4 < 256) (h5 : 0 ≤ b5 ∧ b5 < 256) (h6 : 0 ≤ b6 ∧ b6 < 256) (h7 : 0 ≤ b7 ∧ b7 < 256) (hZ : (bits .and .u8 b0 1 != 0) = true) (hQ : (bits .and .u8 b0 2 != 0) = false) (w : World) :
    Calls Tryz.prog 61 #[arr8 b0 b1 b2 b3 b4 b5 b6 b7] w (RPost w (rdBegin b0 b1 b2 b3 b4 b5 b6 b7)) := by
  have hC : rdBegin b0 b1 b2 b3 b4 b5 b6 b7 = ⟨0, b1 + 256 * b2, b3, true, b4 + 256 * b5 + 65536 * b6 + 16777216 * b7, false, [], false, false, false, 0, 0, 0, 0, 0⟩ := by
    have z1 : bt b0 1 = true := hZ
    have q1 : bt b0 2 = false := hQ
    unfold rdBegin
    rw [z1, q1]
    rfl
  rw [hC]
  clear hC
  have ha := and8 (b0 / 4) 3 (by omega) (by omega)
  obtain ⟨en, hen⟩ := Int.eq_ofNat_of_zero_le ha.1
  have h3 : en ≤ 3 := by have := ha.2; omega
  clear ha
  go_enter Tryz.func61, Tryz.ntmps61
  go_wp2_with fail
  go_cut [3] from 4 (fun s3 wx => ∃ P, s3 = .pointer (some ⟨P, 0, none⟩) ∧ w.heap.size + 1 < P ∧ Below w.heap.size w wx ∧ wx.heap[w.heap.size]? = some (.cells (ar8 b0 b1 b2 b3 b4 b5 b6 b7) 23 (0, 0)) ∧ wx.heap[w.heap.size + 1]? = some (.cells (cmC 0 0 0 false 0 false none 0 0 false false false 0 0 0 0 0) 61 (0, 0)) ∧ wx.heap[P]? = some (.cells (cmC 0 (b1 + 256 * b2) b3 true 0 false none 0 0 false false false 0 0 0 0 0) 61 (0, 0)))
  case first =>
    go_region_held3 (fun x => x.cell? ⟨w.heap.size, 0, none⟩ = some (.int .u8 (b0)) ∧ x.cell? ⟨w.heap.size, 1, none⟩ = some (.int .u8 (b1)) ∧ x.cell? ⟨w.heap.size, 2, none⟩ = some (.int .u8 (b2)) ∧ x.cell? ⟨w.heap.size, 3, none⟩ = some (.int .u8 (b3)) ∧ x.cell? ⟨w.heap.size, 4, none⟩ = some (.int .u8 (b4)) ∧ x.cell? ⟨w.heap.size, 5, none⟩ = some (.int .u8 (b5)) ∧ x.cell? ⟨w.heap.size, 6, none⟩ = some (.int .u8 (b6)) ∧ x.cell? ⟨w.heap.size, 7, none⟩ = some (.int .u8 (b7))) ((simp [go_sem]; done)) (first | ((go_at_call 103; with_reducible refine (placeIn_any _ _ _ _ _ _ _ _ h1 h2 _).mono ?_; rintro r w1 ⟨rfl, p1, p2, rfl⟩)))
    all_goals
      go_wp2_with fail
      go_meet
      exact ⟨_, rfl, by omega, (by repeat (first | exact Below.refl _ _ | apply Below.drew | apply Below.al)), (by repeat (first | exact heap_at _ _ _ (by simp) | rw [heap_drew] | rw [Below.heap_alloc _ _ _ (by first | (simp; done) | (simp; omega))])), (by repeat (first | exact heap_at _ _ _ (by simp) | rw [heap_drew] | rw [Below.heap_alloc _ _ _ (by first | (simp; done) | (simp; omega))])), (by repeat (first | exact heap_at _ _ _ (by simp) | rw [heap_drew] | rw [Below.heap_alloc _ _ _ (by first | (simp; done) | (simp; omega))]))⟩
  case rest =>
    obtain ⟨P, rfl, p1, B1, hb, hrs, hP⟩ := hcut
    have k0 : wc.cell? ⟨P, 0, none⟩ = some (.int .u8 0) := by rw [cell_of_row wc P 0 _ _ _ hP]; rfl
    have k1 : wc.cell? ⟨P, 1, none⟩ = some (.int .u16 (b1 + 256 * b2)) := by rw [cell_of_row wc P 1 _ _ _ hP]; rfl
    have k2 : wc.cell? ⟨P, 2, none⟩ = some (.int .u8 b3) := by rw [cell_of_row wc P 2 _ _ _ hP]; rfl
    have k3 : wc.cell? ⟨P, 3, none⟩ = some (.bool true) := by rw [cell_of_row wc P 3 _ _ _ hP]; rfl
    have k4 : wc.cell? ⟨P, 4, none⟩ = some (.int .u32 0) := by rw [cell_of_row wc P 4 _ _ _ hP]; rfl
    have k5 : wc.cell? ⟨P, 5, none⟩ = some (.bool false) := by rw [cell_of_row wc P 5 _ _ _ hP]; rfl
    have k6 : wc.cell? ⟨P, 6, none⟩ = some (.slice none 0 0) := by rw [cell_of_row wc P 6 _ _ _ hP]; rfl
    have k7 : wc.cell? ⟨P, 7, none⟩ = some (.bool false) := by rw [cell_of_row wc P 7 _ _ _ hP]; rfl
    have k8 : wc.cell? ⟨P, 8, none⟩ = some (.bool false) := by rw [cell_of_row wc P 8 _ _ _ hP]; rfl
    have k9 : wc.cell? ⟨P, 9, none⟩ = some (.bool false) := by rw [cell_of_row wc P 9 _ _ _ hP]; rfl
    have k10 : wc.cell? ⟨P, 10, none⟩ = some (.int .i64 0) := by rw [cell_of_row wc P 10 _ _ _ hP]; rfl
    have k11 : wc.cell? ⟨P, 11, none⟩ = some (.int .i64 0) := by rw [cell_of_row wc P 11 _ _ _ hP]; rfl
    have k12 : wc.cell? ⟨P, 12, none⟩ = some (.int .u16 0) := by rw [cell_of_row wc P 12 _ _ _ hP]; rfl
    have k13 : wc.cell? ⟨P, 13, none⟩ = some (.int .i64 0) := by rw [cell_of_row wc P 13 _ _ _ hP]; rfl
    have k14 : wc.cell? ⟨P, 14, none⟩ = some (.int .u32 0) := by rw [cell_of_row wc P 14 _ _ _ hP]; rfl
    have e0 : wc.cell? ⟨w.heap.size, 0, none⟩ = some (.int .u8 b0) := by rw [cell_of_row wc _ 0 _ _ _ hb]; rfl
    have e1 : wc.cell? ⟨w.heap.size, 1, none⟩ = some (.int .u8 b1) := by rw [cell_of_row wc _ 1 _ _ _ hb]; rfl
    have e2 : wc.cell? ⟨w.heap.size, 2, none⟩ = some (.int .u8 b2) := by rw [cell_of_row wc _ 2 _ _ _ hb]; rfl
    have e3 : wc.cell? ⟨w.heap.size, 3, none⟩ = some (.int .u8 b3) := by rw [cell_of_row wc _ 3 _ _ _ hb]; rfl
    have e4 : wc.cell? ⟨w.heap.size, 4, none⟩ = some (.int .u8 b4) := by rw [cell_of_row wc _ 4 _ _ _ hb]; rfl
    have e5 : wc.cell? ⟨w.heap.size, 5, none⟩ = some (.int .u8 b5) := by rw [cell_of_row wc _ 5 _ _ _ hb]; rfl
    have e6 : wc.cell? ⟨w.heap.size, 6, none⟩ = some (.int .u8 b6) := by rw [cell_of_row wc _ 6 _ _ _ hb]; rfl
    have e7 : wc.cell? ⟨w.heap.size, 7, none⟩ = some (.int .u8 b7) := by rw [cell_of_row wc _ 7 _ _ _ hb]; rfl
    have hPl : P < wc.heap.size := (Array.getElem?_eq_some_iff.1 hP).1
    go_wp2_with fail
    with_reducible refine (numberIn_any _ _ _ _ _ _ _ _ h4 h5 h6 h7 _).mono ?_
    rintro r w1 ⟨rfl, q1, rfl⟩
    have hP2 : (wc.alloc q1).heap[P]? = some (.cells (cmC 0 (b1 + 256 * b2) b3 true 0 false none 0 0 false false false 0 0 0 0 0) 61 (0, 0)) := (Below.heap_alloc _ _ _ hPl).trans hP
    have hP3 : ((wc.setCell ⟨P, 4, none⟩ (.int .u32 (b4 + 256 * b5 + 65536 * b6 + 16777216 * b7))).alloc q1).heap[P]? = some (.cells (cmC 0 (b1 + 256 * b2) b3 true (b4 + 256 * b5 + 65536 * b6 + 16777216 * b7) false none 0 0 false false false 0 0 0 0 0) 61 (0, 0)) := (Below.heap_alloc _ _ _ (by simpa [World.setCell] using hPl)).trans (heap_setCell_same wc P 4 _ _ _ hP)
    have hrs3 : ((wc.setCell ⟨P, 4, none⟩ (.int .u32 (b4 + 256 * b5 + 65536 * b6 + 16777216 * b7))).alloc q1).heap[w.heap.size + 1]? = some (.cells (cmC 0 0 0 false 0 false none 0 0 false false false 0 0 0 0 0) 61 (0, 0)) := (Below.heap_alloc _ _ _ (by simpa [World.setCell] using (Array.getElem?_eq_some_iff.1 hrs).1)).trans ((Below.heap_setCell _ _ _ _ (by show w.heap.size + 1 ≠ P; omega)).trans hrs)
    have k4' : (wc.alloc q1).cell? ⟨P, 4, none⟩ = some (.int .u32 0) := by rw [cell_of_row _ P 4 _ _ _ hP2]; rfl
    have f4' : (wc.alloc q1).frozen? ⟨P, 4, none⟩ = false := frozen_of_row _ P 4 _ _ hP2
    have B3 : Below w.heap.size w ((wc.setCell ⟨P, 4, none⟩ (.int .u32 (b4 + 256 * b5 + 65536 * b6 + 16777216 * b7))).alloc q1) := Below.al (B1.setCell (by show w.heap.size ≤ P; omega) _) _
    clear hP hP2 hrs hb
    go_wp2_with (first | (refine wpList_load_by rfl 61 _ rfl _ _ rfl (loadCM _ P 0 (b1 + 256 * b2) b3 true (b4 + 256 * b5 + 65536 * b6 + 16777216 * b7) false none 0 0 false false false 0 0 0 0 0 _ hP3) ?_) | (refine wpList_store_by rfl 61 _ _ rfl _ _ rfl rfl (storeCM _ _ _ 0 (b1 + 256 * b2) b3 true (b4 + 256 * b5 + 65536 * b6 + 16777216 * b7) false none 0 0 false false false 0 0 0 0 0 _ hrs3 rfl) ?_))
    have hc := fun j => cell_of_row (((wc.setCell ⟨P, 4, none⟩ (.int .u32 (b4 + 256 * b5 + 65536 * b6 + 16777216 * b7))).alloc q1).setRow (w.heap.size + 1) (cmC 0 (b1 + 256 * b2) b3 true (b4 + 256 * b5 + 65536 * b6 + 16777216 * b7) false none 0 0 false false false 0 0 0 0 0)) (w.heap.size + 1) j _ _ _ (setRow_heap _ _ _ _ _ _ hrs3)
    refine bodyPost_ret (v := cmV 0 (b1 + 256 * b2) b3 true (b4 + 256 * b5 + 65536 * b6 + 16777216 * b7) false none 0 0 false false false 0 0 0 0 0) ?_ rfl ?_
    · simp [results, Tryz.results61, go_sem, hc]
    exact ⟨none, 0, rfl, told_nil _ _, below_setRow B3 (Nat.le_succ _) _⟩
#print axioms readBegin_tf

end Go.Proofs.YtimnpdegoehblaaGreatDoor
namespace Go.Proofs.YtimnpdegoehblaaGreatDoor
open Go.RowKit

set_option linter.unusedSimpArgs false in
set_option maxHeartbeats 4000000 in
set_option maxRecDepth 100000 in
theorem readBegin_tq (b0 b1 b2 b3 b4 b5 b6 b7 : Int) (h0 : 0 ≤ b0 ∧ b0 < 256) (h1 : 0 ≤ b1 ∧ b1 < 256) (h2 : 0 ≤ b2 ∧ b2 < 256) (h4 : 0 ≤ b4 ∧ b4 < 256) (h5 : 0 ≤ b5 ∧ b5 < 256) (h6 : 0 ≤ b6 ∧ b6 < 256) (h7 : 0 ≤ b7 ∧ b7 < 256) (hZ : (bits .and .u8 b0 1 != 0) = true) (hQ : (bits .and .u8 b0 2 != 0) = true) (w : World) :
    Calls Tryz.prog 61 #[arr8 b0 b1 b2 b3 b4 b5 b6 b7] w (RPost w (rdBegin b0 b1 b2 b3 b4 b5 b6 b7)) := by
  have hC : rdBegin b0 b1 b2 b3 b4 b5 b6 b7 = ⟨0, b1 + 256 * b2, b3, true, 0, true, [b4, b5, b6, b7].take (4 - (bits .and .u8 (b0 / 4) 3).toNat), false, false, false, 0, 0, 0, 0, 0⟩ := by
    have z1 : bt b0 1 = true := hZ
    have q1 : bt b0 2 = true := hQ
    unfold rdBegin
    rw [z1, q1]
    rfl
  rw [hC]
  clear hC
  have ha := and8 (b0 / 4) 3 (by omega) (by omega)
  obtain ⟨en, hen⟩ := Int.eq_ofNat_of_zero_le ha.1
  have h3 : en ≤ 3 := by have := ha.2; omega
  have hnn : (bits .and .u8 (b0 / 4) 3).toNat = en := by rw [hen]; rfl
  rw [hnn]
  clear hnn
  clear ha
  go_enter Tryz.func61, Tryz.ntmps61
  go_wp2_with fail
  go_cut [3] from 4 (fun s3 wx => ∃ P, s3 = .pointer (some ⟨P, 0, none⟩) ∧ w.heap.size + 1 < P ∧ Below w.heap.size w wx ∧ wx.heap[w.heap.size]? = some (.cells (ar8 b0 b1 b2 b3 b4 b5 b6 b7) 23 (0, 0)) ∧ wx.heap[w.heap.size + 1]? = some (.cells (cmC 0 0 0 false 0 false none 0 0 false false false 0 0 0 0 0) 61 (0, 0)) ∧ wx.heap[P]? = some (.cells (cmC 0 (b1 + 256 * b2) b3 true 0 true none 0 0 false false false 0 0 0 0 0) 61 (0, 0)))
  case first =>
    go_region_held3 (fun x => x.cell? ⟨w.heap.size, 0, none⟩ = some (.int .u8 (b0)) ∧ x.cell? ⟨w.heap.size, 1, none⟩ = some (.int .u8 (b1)) ∧ x.cell? ⟨w.heap.size, 2, none⟩ = some (.int .u8 (b2)) ∧ x.cell? ⟨w.heap.size, 3, none⟩ = some (.int .u8 (b3)) ∧ x.cell? ⟨w.heap.size, 4, none⟩ = some (.int .u8 (b4)) ∧ x.cell? ⟨w.heap.size, 5, none⟩ = some (.int .u8 (b5)) ∧ x.cell? ⟨w.heap.size, 6, none⟩ = some (.int .u8 (b6)) ∧ x.cell? ⟨w.heap.size, 7, none⟩ = some (.int .u8 (b7))) ((simp [go_sem]; done)) (first | ((go_at_call 103; with_reducible refine (placeIn_any _ _ _ _ _ _ _ _ h1 h2 _).mono ?_; rintro r w1 ⟨rfl, p1, p2, rfl⟩)))
    all_goals
      go_wp2_with fail
      go_meet
      exact ⟨_, rfl, by omega, (by repeat (first | exact Below.refl _ _ | apply Below.drew | apply Below.al)), (by repeat (first | exact heap_at _ _ _ (by simp) | rw [heap_drew] | rw [Below.heap_alloc _ _ _ (by first | (simp; done) | (simp; omega))])), (by repeat (first | exact heap_at _ _ _ (by simp) | rw [heap_drew] | rw [Below.heap_alloc _ _ _ (by first | (simp; done) | (simp; omega))])), (by repeat (first | exact heap_at _ _ _ (by simp) | rw [heap_drew] | rw [Below.heap_alloc _ _ _ (by first | (simp; done) | (simp; omega))]))⟩
  case rest =>
    obtain ⟨P, rfl, p1, B1, hb, hrs, hP⟩ := hcut
    have k0 : wc.cell? ⟨P, 0, none⟩ = some (.int .u8 0) := by rw [cell_of_row wc P 0 _ _ _ hP]; rfl
    have k1 : wc.cell? ⟨P, 1, none⟩ = some (.int .u16 (b1 + 256 * b2)) := by rw [cell_of_row wc P 1 _ _ _ hP]; rfl
    have k2 : wc.cell? ⟨P, 2, none⟩ = some (.int .u8 b3) := by rw [cell_of_row wc P 2 _ _ _ hP]; rfl
    have k3 : wc.cell? ⟨P, 3, none⟩ = some (.bool true) := by rw [cell_of_row wc P 3 _ _ _ hP]; rfl
    have k4 : wc.cell? ⟨P, 4, none⟩ = some (.int .u32 0) := by rw [cell_of_row wc P 4 _ _ _ hP]; rfl
    have k5 : wc.cell? ⟨P, 5, none⟩ = some (.bool true) := by rw [cell_of_row wc P 5 _ _ _ hP]; rfl
    have k6 : wc.cell? ⟨P, 6, none⟩ = some (.slice none 0 0) := by rw [cell_of_row wc P 6 _ _ _ hP]; rfl
    have k7 : wc.cell? ⟨P, 7, none⟩ = some (.bool false) := by rw [cell_of_row wc P 7 _ _ _ hP]; rfl
    have k8 : wc.cell? ⟨P, 8, none⟩ = some (.bool false) := by rw [cell_of_row wc P 8 _ _ _ hP]; rfl
    have k9 : wc.cell? ⟨P, 9, none⟩ = some (.bool false) := by rw [cell_of_row wc P 9 _ _ _ hP]; rfl
    have k10 : wc.cell? ⟨P, 10, none⟩ = some (.int .i64 0) := by rw [cell_of_row wc P 10 _ _ _ hP]; rfl
    have k11 : wc.cell? ⟨P, 11, none⟩ = some (.int .i64 0) := by rw [cell_of_row wc P 11 _ _ _ hP]; rfl
    have k12 : wc.cell? ⟨P, 12, none⟩ = some (.int .u16 0) := by rw [cell_of_row wc P 12 _ _ _ hP]; rfl
    have k13 : wc.cell? ⟨P, 13, none⟩ = some (.int .i64 0) := by rw [cell_of_row wc P 13 _ _ _ hP]; rfl
    have k14 : wc.cell? ⟨P, 14, none⟩ = some (.int .u32 0) := by rw [cell_of_row wc P 14 _ _ _ hP]; rfl
    have e0 : wc.cell? ⟨w.heap.size, 0, none⟩ = some (.int .u8 b0) := by rw [cell_of_row wc _ 0 _ _ _ hb]; rfl
    have e1 : wc.cell? ⟨w.heap.size, 1, none⟩ = some (.int .u8 b1) := by rw [cell_of_row wc _ 1 _ _ _ hb]; rfl
    have e2 : wc.cell? ⟨w.heap.size, 2, none⟩ = some (.int .u8 b2) := by rw [cell_of_row wc _ 2 _ _ _ hb]; rfl
    have e3 : wc.cell? ⟨w.heap.size, 3, none⟩ = some (.int .u8 b3) := by rw [cell_of_row wc _ 3 _ _ _ hb]; rfl
    have e4 : wc.cell? ⟨w.heap.size, 4, none⟩ = some (.int .u8 b4) := by rw [cell_of_row wc _ 4 _ _ _ hb]; rfl
    have e5 : wc.cell? ⟨w.heap.size, 5, none⟩ = some (.int .u8 b5) := by rw [cell_of_row wc _ 5 _ _ _ hb]; rfl
    have e6 : wc.cell? ⟨w.heap.size, 6, none⟩ = some (.int .u8 b6) := by rw [cell_of_row wc _ 6 _ _ _ hb]; rfl
    have e7 : wc.cell? ⟨w.heap.size, 7, none⟩ = some (.int .u8 b7) := by rw [cell_of_row wc _ 7 _ _ _ hb]; rfl
    have hPl : P < wc.heap.size := (Array.getElem?_eq_some_iff.1 hP).1
    have hRl : w.heap.size + 1 < wc.heap.size := (Array.getElem?_eq_some_iff.1 hrs).1
    have hsl := fun w' => sl_4 w.heap.size en h3 w'
    have hrow := row_4 wc w.heap.size en b0 b1 b2 b3 b4 b5 b6 b7 _ h4 h5 h6 h7 hb
    have HCl : Hid (Calls Tryz.prog 34 #[.slice (some ⟨w.heap.size, 4, none⟩) (4 - en) 4] wc fun e w' => (∃ a' cap', e = .returned (.slice a' (4 - en) cap') ∧ Told wc w' a' (4 - en) cap' ([b4, b5, b6, b7].take (4 - en))) ∧ Below wc.heap.size wc w') := clone8_any _ _ _ _ wc hrow (by omega)
    clear hrow hb
    have e8 : IntKind.i64.wrap (8 - (en : Int)) = 8 - (en : Int) := by simp [IntKind.wrap, IntKind.bits, IntKind.signed]; omega
    have hle : (en : Int) ≤ 3 := by omega
    go_wp2_with fail
    with_reducible refine HCl.out.mono ?_
    rintro r w1 ⟨⟨a', cap', rfl, ht⟩, hb1⟩
    have hP2 : w1.heap[P]? = some (.cells (cmC 0 (b1 + 256 * b2) b3 true 0 true none 0 0 false false false 0 0 0 0 0) 61 (0, 0)) := (hb1.block _ hPl).trans hP
    have hP3 : (w1.setCell ⟨P, 6, none⟩ (.slice a' (4 - en) cap')).heap[P]? = some (.cells (cmC 0 (b1 + 256 * b2) b3 true 0 true a' (4 - en) cap' false false false 0 0 0 0 0) 61 (0, 0)) := heap_setCell_same w1 P 6 _ _ _ hP2
    have hrs3 : (w1.setCell ⟨P, 6, none⟩ (.slice a' (4 - en) cap')).heap[w.heap.size + 1]? = some (.cells (cmC 0 0 0 false 0 false none 0 0 false false false 0 0 0 0 0) 61 (0, 0)) := (Below.heap_setCell _ _ _ _ (by show w.heap.size + 1 ≠ P; omega)).trans ((hb1.block _ hRl).trans hrs)
    have k6' : w1.cell? ⟨P, 6, none⟩ = some (.slice none 0 0) := by rw [cell_of_row _ P 6 _ _ _ hP2]; rfl
    have f6' : w1.frozen? ⟨P, 6, none⟩ = false := frozen_of_row _ P 6 _ _ hP2
    have B3 : Below w.heap.size w (w1.setCell ⟨P, 6, none⟩ (.slice a' (4 - en) cap')) := (Below.andThen B1 hb1).setCell (by show w.heap.size ≤ P; omega) _
    have HT : Hid (Told w ((w1.setCell ⟨P, 6, none⟩ (.slice a' (4 - en) cap')).setRow (w.heap.size + 1) (cmC 0 (b1 + 256 * b2) b3 true 0 true a' (4 - en) cap' false false false 0 0 0 0 0)) a' (4 - en) cap' ([b4, b5, b6, b7].take (4 - en))) := ht.other B1.size (fun g hg => (setRow_other _ _ _ _ (by omega)).trans (Below.heap_setCell _ _ _ _ (by show g ≠ P; omega)))
    have HL : Hid (([b4, b5, b6, b7].take (4 - en)).length = 4 - en) := by show _ = _; simp
    clear hP hP2 hrs ht hb1 HCl
    go_wp2_with (first | (refine wpList_load_by rfl 61 _ rfl _ _ rfl (loadCM _ P 0 (b1 + 256 * b2) b3 true 0 true a' (4 - en) cap' false false false 0 0 0 0 0 _ hP3) ?_) | (refine wpList_store_by rfl 61 _ _ rfl _ _ rfl rfl (storeCM _ _ _ 0 (b1 + 256 * b2) b3 true 0 true a' (4 - en) cap' false false false 0 0 0 0 0 _ hrs3 rfl) ?_))
    have hc := fun j => cell_of_row ((w1.setCell ⟨P, 6, none⟩ (.slice a' (4 - en) cap')).setRow (w.heap.size + 1) (cmC 0 (b1 + 256 * b2) b3 true 0 true a' (4 - en) cap' false false false 0 0 0 0 0)) (w.heap.size + 1) j _ _ _ (setRow_heap _ _ _ _ _ _ hrs3)
    refine bodyPost_ret (v := cmV 0 (b1 + 256 * b2) b3 true 0 true a' (4 - en) cap' false false false 0 0 0 0 0) ?_ rfl ?_
    · simp [results, Tryz.results61, go_sem, hc]
    refine ⟨a', cap', ?_, ?_, below_setRow B3 (Nat.le_succ _) _⟩
    · show _ = Ending.returned (cmV _ _ _ _ _ _ _ _ _ _ _ _ _ _ _ _ _)
      rw [HL.out]
    · show Told _ _ _ _ _ _
      rw [HL.out]
      exact HT.out
#print axioms readBegin_tq

end Go.Proofs.YtimnpdegoehblaaGreatDoor
namespace Go.Proofs.YtimnpdegoehblaaGreatDoor
open Go.RowKit

set_option linter.unusedSimpArgs false in
set_option maxHeartbeats 4000000 in
set_option maxRecDepth 100000 in
theorem readBegin_fq (b0 b1 b2 b3 b4 b5 b6 b7 : Int) (h0 : 0 ≤ b0 ∧ b0 < 256) (h1 : 0 ≤ b1 ∧ b1 < 256) (h2 : 0 ≤ b2 ∧ b2 < 256) (h4 : 0 ≤ b4 ∧ b4 < 256) (h5 : 0 ≤ b5 ∧ b5 < 256) (h6 : 0 ≤ b6 ∧ b6 < 256) (h7 : 0 ≤ b7 ∧ b7 < 256) (hZ : (bits .and .u8 b0 1 != 0) = false) (hQ : (bits .and .u8 b0 2 != 0) = true) (w : World) :
    Calls Tryz.prog 61 #[arr8 b0 b1 b2 b3 b4 b5 b6 b7] w (RPost w (rdBegin b0 b1 b2 b3 b4 b5 b6 b7)) := by
  have hC : rdBegin b0 b1 b2 b3 b4 b5 b6 b7 = ⟨0, b1 + 256 * b2, b3, false, 0, true, [b4, b5, b6, b7].take (4 - (bits .and .u8 (b0 / 4) 3).toNat), false, false, false, 0, 0, 0, 0, 0⟩ := by
    have z1 : bt b0 1 = false := hZ
    have q1 : bt b0 2 = true := hQ
    unfold rdBegin
    rw [z1, q1]
    rfl
  rw [hC]
  clear hC
  have ha := and8 (b0 / 4) 3 (by omega) (by omega)
  obtain ⟨en, hen⟩ := Int.eq_ofNat_of_zero_le ha.1
  have h3 : en ≤ 3 := by have := ha.2; omega
  have hnn : (bits .and .u8 (b0 / 4) 3).toNat = en := by rw [hen]; rfl
  rw [hnn]
  clear hnn
  clear ha
  go_enter Tryz.func61, Tryz.ntmps61
  go_wp2_with fail
  go_cut [3] from 4 (fun s3 wx => ∃ P, s3 = .pointer (some ⟨P, 0, none⟩) ∧ w.heap.size + 1 < P ∧ Below w.heap.size w wx ∧ wx.heap[w.heap.size]? = some (.cells (ar8 b0 b1 b2 b3 b4 b5 b6 b7) 23 (0, 0)) ∧ wx.heap[w.heap.size + 1]? = some (.cells (cmC 0 0 0 false 0 false none 0 0 false false false 0 0 0 0 0) 61 (0, 0)) ∧ wx.heap[P]? = some (.cells (cmC 0 (b1 + 256 * b2) b3 false 0 true none 0 0 false false false 0 0 0 0 0) 61 (0, 0)))
  case first =>
    go_region_held3 (fun x => x.cell? ⟨w.heap.size, 0, none⟩ = some (.int .u8 (b0)) ∧ x.cell? ⟨w.heap.size, 1, none⟩ = some (.int .u8 (b1)) ∧ x.cell? ⟨w.heap.size, 2, none⟩ = some (.int .u8 (b2)) ∧ x.cell? ⟨w.heap.size, 3, none⟩ = some (.int .u8 (b3)) ∧ x.cell? ⟨w.heap.size, 4, none⟩ = some (.int .u8 (b4)) ∧ x.cell? ⟨w.heap.size, 5, none⟩ = some (.int .u8 (b5)) ∧ x.cell? ⟨w.heap.size, 6, none⟩ = some (.int .u8 (b6)) ∧ x.cell? ⟨w.heap.size, 7, none⟩ = some (.int .u8 (b7))) ((simp [go_sem]; done)) (first | ((go_at_call 103; with_reducible refine (placeIn_any _ _ _ _ _ _ _ _ h1 h2 _).mono ?_; rintro r w1 ⟨rfl, p1, p2, rfl⟩)))
    all_goals
      go_wp2_with fail
      go_meet
      exact ⟨_, rfl, by omega, (by repeat (first | exact Below.refl _ _ | apply Below.drew | apply Below.al)), (by repeat (first | exact heap_at _ _ _ (by simp) | rw [heap_drew] | rw [Below.heap_alloc _ _ _ (by first | (simp; done) | (simp; omega))])), (by repeat (first | exact heap_at _ _ _ (by simp) | rw [heap_drew] | rw [Below.heap_alloc _ _ _ (by first | (simp; done) | (simp; omega))])), (by repeat (first | exact heap_at _ _ _ (by simp) | rw [heap_drew] | rw [Below.heap_alloc _ _ _ (by first | (simp; done) | (simp; omega))]))⟩
  case rest =>
    obtain ⟨P, rfl, p1, B1, hb, hrs, hP⟩ := hcut
    have k0 : wc.cell? ⟨P, 0, none⟩ = some (.int .u8 0) := by rw [cell_of_row wc P 0 _ _ _ hP]; rfl
    have k1 : wc.cell? ⟨P, 1, none⟩ = some (.int .u16 (b1 + 256 * b2)) := by rw [cell_of_row wc P 1 _ _ _ hP]; rfl
    have k2 : wc.cell? ⟨P, 2, none⟩ = some (.int .u8 b3) := by rw [cell_of_row wc P 2 _ _ _ hP]; rfl
    have k3 : wc.cell? ⟨P, 3, none⟩ = some (.bool false) := by rw [cell_of_row wc P 3 _ _ _ hP]; rfl
    have k4 : wc.cell? ⟨P, 4, none⟩ = some (.int .u32 0) := by rw [cell_of_row wc P 4 _ _ _ hP]; rfl
    have k5 : wc.cell? ⟨P, 5, none⟩ = some (.bool true) := by rw [cell_of_row wc P 5 _ _ _ hP]; rfl
    have k6 : wc.cell? ⟨P, 6, none⟩ = some (.slice none 0 0) := by rw [cell_of_row wc P 6 _ _ _ hP]; rfl
    have k7 : wc.cell? ⟨P, 7, none⟩ = some (.bool false) := by rw [cell_of_row wc P 7 _ _ _ hP]; rfl
    have k8 : wc.cell? ⟨P, 8, none⟩ = some (.bool false) := by rw [cell_of_row wc P 8 _ _ _ hP]; rfl
    have k9 : wc.cell? ⟨P, 9, none⟩ = some (.bool false) := by rw [cell_of_row wc P 9 _ _ _ hP]; rfl
    have k10 : wc.cell? ⟨P, 10, none⟩ = some (.int .i64 0) := by rw [cell_of_row wc P 10 _ _ _ hP]; rfl
    have k11 : wc.cell? ⟨P, 11, none⟩ = some (.int .i64 0) := by rw [cell_of_row wc P 11 _ _ _ hP]; rfl
    have k12 : wc.cell? ⟨P, 12, none⟩ = some (.int .u16 0) := by rw [cell_of_row wc P 12 _ _ _ hP]; rfl
    have k13 : wc.cell? ⟨P, 13, none⟩ = some (.int .i64 0) := by rw [cell_of_row wc P 13 _ _ _ hP]; rfl
    have k14 : wc.cell? ⟨P, 14, none⟩ = some (.int .u32 0) := by rw [cell_of_row wc P 14 _ _ _ hP]; rfl
    have e0 : wc.cell? ⟨w.heap.size, 0, none⟩ = some (.int .u8 b0) := by rw [cell_of_row wc _ 0 _ _ _ hb]; rfl
    have e1 : wc.cell? ⟨w.heap.size, 1, none⟩ = some (.int .u8 b1) := by rw [cell_of_row wc _ 1 _ _ _ hb]; rfl
    have e2 : wc.cell? ⟨w.heap.size, 2, none⟩ = some (.int .u8 b2) := by rw [cell_of_row wc _ 2 _ _ _ hb]; rfl
    have e3 : wc.cell? ⟨w.heap.size, 3, none⟩ = some (.int .u8 b3) := by rw [cell_of_row wc _ 3 _ _ _ hb]; rfl
    have e4 : wc.cell? ⟨w.heap.size, 4, none⟩ = some (.int .u8 b4) := by rw [cell_of_row wc _ 4 _ _ _ hb]; rfl
    have e5 : wc.cell? ⟨w.heap.size, 5, none⟩ = some (.int .u8 b5) := by rw [cell_of_row wc _ 5 _ _ _ hb]; rfl
    have e6 : wc.cell? ⟨w.heap.size, 6, none⟩ = some (.int .u8 b6) := by rw [cell_of_row wc _ 6 _ _ _ hb]; rfl
    have e7 : wc.cell? ⟨w.heap.size, 7, none⟩ = some (.int .u8 b7) := by rw [cell_of_row wc _ 7 _ _ _ hb]; rfl
    have hPl : P < wc.heap.size := (Array.getElem?_eq_some_iff.1 hP).1
    have hRl : w.heap.size + 1 < wc.heap.size := (Array.getElem?_eq_some_iff.1 hrs).1
    have hsl := fun w' => sl_4 w.heap.size en h3 w'
    have hrow := row_4 wc w.heap.size en b0 b1 b2 b3 b4 b5 b6 b7 _ h4 h5 h6 h7 hb
    have HCl : Hid (Calls Tryz.prog 34 #[.slice (some ⟨w.heap.size, 4, none⟩) (4 - en) 4] wc fun e w' => (∃ a' cap', e = .returned (.slice a' (4 - en) cap') ∧ Told wc w' a' (4 - en) cap' ([b4, b5, b6, b7].take (4 - en))) ∧ Below wc.heap.size wc w') := clone8_any _ _ _ _ wc hrow (by omega)
    clear hrow hb
    have e8 : IntKind.i64.wrap (8 - (en : Int)) = 8 - (en : Int) := by simp [IntKind.wrap, IntKind.bits, IntKind.signed]; omega
    have hle : (en : Int) ≤ 3 := by omega
    go_wp2_with fail
    with_reducible refine HCl.out.mono ?_
    rintro r w1 ⟨⟨a', cap', rfl, ht⟩, hb1⟩
    have hP2 : w1.heap[P]? = some (.cells (cmC 0 (b1 + 256 * b2) b3 false 0 true none 0 0 false false false 0 0 0 0 0) 61 (0, 0)) := (hb1.block _ hPl).trans hP
    have hP3 : (w1.setCell ⟨P, 6, none⟩ (.slice a' (4 - en) cap')).heap[P]? = some (.cells (cmC 0 (b1 + 256 * b2) b3 false 0 true a' (4 - en) cap' false false false 0 0 0 0 0) 61 (0, 0)) := heap_setCell_same w1 P 6 _ _ _ hP2
    have hrs3 : (w1.setCell ⟨P, 6, none⟩ (.slice a' (4 - en) cap')).heap[w.heap.size + 1]? = some (.cells (cmC 0 0 0 false 0 false none 0 0 false false false 0 0 0 0 0) 61 (0, 0)) := (Below.heap_setCell _ _ _ _ (by show w.heap.size + 1 ≠ P; omega)).trans ((hb1.block _ hRl).trans hrs)
    have k6' : w1.cell? ⟨P, 6, none⟩ = some (.slice none 0 0) := by rw [cell_of_row _ P 6 _ _ _ hP2]; rfl
    have f6' : w1.frozen? ⟨P, 6, none⟩ = false := frozen_of_row _ P 6 _ _ hP2
    have B3 : Below w.heap.size w (w1.setCell ⟨P, 6, none⟩ (.slice a' (4 - en) cap')) := (Below.andThen B1 hb1).setCell (by show w.heap.size ≤ P; omega) _
    have HT : Hid (Told w ((w1.setCell ⟨P, 6, none⟩ (.slice a' (4 - en) cap')).setRow (w.heap.size + 1) (cmC 0 (b1 + 256 * b2) b3 false 0 true a' (4 - en) cap' false false false 0 0 0 0 0)) a' (4 - en) cap' ([b4, b5, b6, b7].take (4 - en))) := ht.other B1.size (fun g hg => (setRow_other _ _ _ _ (by omega)).trans (Below.heap_setCell _ _ _ _ (by show g ≠ P; omega)))
    have HL : Hid (([b4, b5, b6, b7].take (4 - en)).length = 4 - en) := by show _ = _; simp
    clear hP hP2 hrs ht hb1 HCl
    go_wp2_with (first | (refine wpList_load_by rfl 61 _ rfl _ _ rfl (loadCM _ P 0 (b1 + 256 * b2) b3 false 0 true a' (4 - en) cap' false false false 0 0 0 0 0 _ hP3) ?_) | (refine wpList_store_by rfl 61 _ _ rfl _ _ rfl rfl (storeCM _ _ _ 0 (b1 + 256 * b2) b3 false 0 true a' (4 - en) cap' false false false 0 0 0 0 0 _ hrs3 rfl) ?_))
    have hc := fun j => cell_of_row ((w1.setCell ⟨P, 6, none⟩ (.slice a' (4 - en) cap')).setRow (w.heap.size + 1) (cmC 0 (b1 + 256 * b2) b3 false 0 true a' (4 - en) cap' false false false 0 0 0 0 0)) (w.heap.size + 1) j _ _ _ (setRow_heap _ _ _ _ _ _ hrs3)
    refine bodyPost_ret (v := cmV 0 (b1 + 256 * b2) b3 false 0 true a' (4 - en) cap' false false false 0 0 0 0 0) ?_ rfl ?_
    · simp [results, Tryz.results61, go_sem, hc]
    refine ⟨a', cap', ?_, ?_, below_setRow B3 (Nat.le_succ _) _⟩
    · show _ = Ending.returned (cmV _ _ _ _ _ _ _ _ _ _ _ _ _ _ _ _ _)
      rw [HL.out]
    · show Told _ _ _ _ _ _
      rw [HL.out]
      exact HT.out
#print axioms readBegin_fq

end Go.Proofs.YtimnpdegoehblaaGreatDoor
