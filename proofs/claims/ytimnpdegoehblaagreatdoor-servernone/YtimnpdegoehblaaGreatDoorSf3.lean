/-
  The walk of the reading of a beginning.
-/
import Derived.Test.YtimnpdegoehblaaGreatDoorSf
import Derived.Test.YtimnpdegoehblaaGreatDoorSg
import Derived.Deep.DeepCutAuto
namespace Go.Proofs.YtimnpdegoehblaaGreatDoor
open Go.RowKit

theorem heap_at (w : World) (o : Obj) (j : Nat) (h : j = w.heap.size) : (w.alloc o).heap[j]? = some o := by subst h; exact heap_new w o
theorem heap_drew (w : World) (j : Nat) : w.drew.heap[j]? = w.heap[j]? := rfl
theorem Told.mono {w W w' : World} {a : Option Addr} {len cap : Nat} {zs : List Int} (h : Told W w' a len cap zs) (hs : w.heap.size ≤ W.heap.size) : Told w w' a len cap zs :=
  ⟨h.row, h.le, h.max, fun hp => by obtain ⟨g, e, hg, hz⟩ := h.own hp; exact ⟨g, e, Nat.le_trans hs hg, hz⟩⟩
/-- Nothing of it turns where another block is written. -/
theorem Told.other {w W w1 w2 : World} {a : Option Addr} {len cap : Nat} {zs : List Int} (h : Told W w1 a len cap zs) (hs : w.heap.size ≤ W.heap.size) (hk : ∀ g, W.heap.size ≤ g → w2.heap[g]? = w1.heap[g]?) : Told w w2 a len cap zs := by
  refine ⟨⟨h.row.size, h.row.oct, fun hp => ?_⟩, h.le, h.max, fun hp => ?_⟩
  · obtain ⟨g, rfl, hg, _⟩ := h.own hp
    obtain ⟨b, off, e, hc⟩ := h.row.at_ hp
    cases e
    exact ⟨_, 0, rfl, fun i hi => by rw [World.cell?_of_block (w := w1) (hk g hg)]; exact hc i hi⟩
  · obtain ⟨g, e, hg, hz⟩ := h.own hp
    exact ⟨g, e, Nat.le_trans hs hg, fun i hi => by rw [World.frozen?_of_block (w := w1) (hk g hg)]; exact hz i hi⟩
theorem sl4_0 (B : Nat) (w : World) : (Instr.sliceAt 23 (.pointer (some ⟨B, 0, none⟩)) (some (.int .i64 4)) (some (.int .i64 (8 - ((0 : Nat) : Int)))) none).run Tryz.prog w = .ok (.slice (some ⟨B, 4, none⟩) (4 - 0) 4) w := by kernel_rfl
theorem sl4_1 (B : Nat) (w : World) : (Instr.sliceAt 23 (.pointer (some ⟨B, 0, none⟩)) (some (.int .i64 4)) (some (.int .i64 (8 - ((1 : Nat) : Int)))) none).run Tryz.prog w = .ok (.slice (some ⟨B, 4, none⟩) (4 - 1) 4) w := by kernel_rfl
theorem sl4_2 (B : Nat) (w : World) : (Instr.sliceAt 23 (.pointer (some ⟨B, 0, none⟩)) (some (.int .i64 4)) (some (.int .i64 (8 - ((2 : Nat) : Int)))) none).run Tryz.prog w = .ok (.slice (some ⟨B, 4, none⟩) (4 - 2) 4) w := by kernel_rfl
theorem sl4_3 (B : Nat) (w : World) : (Instr.sliceAt 23 (.pointer (some ⟨B, 0, none⟩)) (some (.int .i64 4)) (some (.int .i64 (8 - ((3 : Nat) : Int)))) none).run Tryz.prog w = .ok (.slice (some ⟨B, 4, none⟩) (4 - 3) 4) w := by kernel_rfl
theorem sl_4 (B en : Nat) (h : en ≤ 3) (w : World) : (Instr.sliceAt 23 (.pointer (some ⟨B, 0, none⟩)) (some (.int .i64 4)) (some (.int .i64 (8 - (en : Int)))) none).run Tryz.prog w = .ok (.slice (some ⟨B, 4, none⟩) (4 - en) 4) w := by
  have h9 : en = 0 ∨ en = 1 ∨ en = 2 ∨ en = 3 := by omega
  rcases h9 with rfl | rfl | rfl | rfl
  · exact sl4_0 B w
  · exact sl4_1 B w
  · exact sl4_2 B w
  · exact sl4_3 B w
theorem row_4 (w : World) (B en : Nat) (b0 b1 b2 b3 b4 b5 b6 b7 : Int) (T : TypeId) (h4 : 0 ≤ b4 ∧ b4 < 256) (h5 : 0 ≤ b5 ∧ b5 < 256) (h6 : 0 ≤ b6 ∧ b6 < 256) (h7 : 0 ≤ b7 ∧ b7 < 256) (h : w.heap[B]? = some (.cells (ar8 b0 b1 b2 b3 b4 b5 b6 b7) T (0, 0))) : Row w (some ⟨B, 4, none⟩) (4 - en) ([b4, b5, b6, b7].take (4 - en)) := by
  refine ⟨by simp, ?_, fun _ => ⟨B, 4, rfl, fun i hi => ?_⟩⟩
  · intro x hx
    have := List.mem_of_mem_take hx
    simp only [List.mem_cons, List.not_mem_nil, or_false] at this
    rcases this with rfl | rfl | rfl | rfl <;> assumption
  · rw [cell_of_row w B (4 + i) _ _ _ h, List.getD_eq_getElem?_getD, List.getElem?_take, if_pos hi]
    have h9 : i = 0 ∨ i = 1 ∨ i = 2 ∨ i = 3 := by omega
    rcases h9 with rfl | rfl | rfl | rfl <;> rfl
#print axioms row_4
#print axioms sl_4
/-- What a beginning tells. -/
def rdBegin (b0 b1 b2 b3 b4 b5 b6 b7 : Int) : Cm := ⟨0, b1 + 256 * b2, b3, bt b0 1, (if bt b0 2 then 0 else if bt b0 1 then b4 + 256 * b5 + 65536 * b6 + 16777216 * b7 else 0), bt b0 2, (if bt b0 2 then [b4, b5, b6, b7].take (4 - (bits .and .u8 (b0 / 4) 3).toNat) else []), false, false, false, 0, 0, 0, 0, 0⟩

set_option linter.unusedSimpArgs false in
set_option maxHeartbeats 4000000 in
set_option maxRecDepth 100000 in
theorem readBegin_ff (b0 b1 b2 b3 b4 b5 b6 b7 : Int) (h0 : 0 ≤ b0 ∧ b0 < 256) (h1 : 0 ≤ b1 ∧ b1 < 256) (h2 : 0 ≤ b2 ∧ b2 < 256) (hZ : (bits .and .u8 b0 1 != 0) = false) (hQ : (bits .and .u8 b0 2 != 0) = false) (w : World) :
    Calls Tryz.prog 61 #[arr8 b0 b1 b2 b3 b4 b5 b6 b7] w (RPost w (rdBegin b0 b1 b2 b3 b4 b5 b6 b7)) := by
  have hC : rdBegin b0 b1 b2 b3 b4 b5 b6 b7 = ⟨0, b1 + 256 * b2, b3, false, 0, false, [], false, false, false, 0, 0, 0, 0, 0⟩ := by
    have z1 : bt b0 1 = false := hZ
    have q1 : bt b0 2 = false := hQ
    unfold rdBegin
    rw [z1, q1]
    rfl
  rw [hC]
  clear hC
  have ha := and8 (b0 / 4) 3 (by omega) (by omega)
  obtain ⟨en, hen⟩ := Int.eq_ofNat_of_zero_le ha.1
  have h3 : en ≤ 3 := by have := ha.2; omega
  clear ha
  go_enter Tryz.func61, Tryz.ntmps61
  go_wp2_with fail
  go_cut [3] from 4 (fun s3 wx => ∃ P, s3 = .pointer (some ⟨P, 0, none⟩) ∧ w.heap.size + 1 < P ∧ Below w.heap.size w wx ∧ wx.heap[w.heap.size]? = some (.cells (ar8 b0 b1 b2 b3 b4 b5 b6 b7) 23 (0, 0)) ∧ wx.heap[w.heap.size + 1]? = some (.cells (cmC 0 0 0 false 0 false none 0 0 false false false 0 0 0 0 0) 61 (0, 0)) ∧ wx.heap[P]? = some (.cells (cmC 0 (b1 + 256 * b2) b3 false 0 false none 0 0 false false false 0 0 0 0 0) 61 (0, 0)))
  case first =>
    go_region_held3 (fun x => x.cell? ⟨w.heap.size, 0, none⟩ = some (.int .u8 (b0)) ∧ x.cell? ⟨w.heap.size, 1, none⟩ = some (.int .u8 (b1)) ∧ x.cell? ⟨w.heap.size, 2, none⟩ = some (.int .u8 (b2)) ∧ x.cell? ⟨w.heap.size, 3, none⟩ = some (.int .u8 (b3)) ∧ x.cell? ⟨w.heap.size, 4, none⟩ = some (.int .u8 (b4)) ∧ x.cell? ⟨w.heap.size, 5, none⟩ = some (.int .u8 (b5)) ∧ x.cell? ⟨w.heap.size, 6, none⟩ = some (.int .u8 (b6)) ∧ x.cell? ⟨w.heap.size, 7, none⟩ = some (.int .u8 (b7))) ((simp [go_sem]; done)) (first | ((go_at_call 103; with_reducible refine (placeIn_any _ _ _ _ _ _ _ _ h1 h2 _).mono ?_; rintro r w1 ⟨rfl, p1, p2, rfl⟩)))
    all_goals
      go_wp2_with fail
      go_meet
      exact ⟨_, rfl, by omega, (by repeat (first | exact Below.refl _ _ | apply Below.drew | apply Below.al)), (by repeat (first | exact heap_at _ _ _ (by simp) | rw [heap_drew] | rw [Below.heap_alloc _ _ _ (by first | (simp; done) | (simp; omega))])), (by repeat (first | exact heap_at _ _ _ (by simp) | rw [heap_drew] | rw [Below.heap_alloc _ _ _ (by first | (simp; done) | (simp; omega))])), (by repeat (first | exact heap_at _ _ _ (by simp) | rw [heap_drew] | rw [Below.heap_alloc _ _ _ (by first | (simp; done) | (simp; omega))]))⟩
  case rest =>
    obtain ⟨P, rfl, p1, B1, hb, hrs, hP⟩ := hcut
    have k0 : wc.cell? ⟨P, 0, none⟩ = some (.int .u8 0) := by rw [cell_of_row wc P 0 _ _ _ hP]; rfl
    have k1 : wc.cell? ⟨P, 1, none⟩ = some (.int .u16 (b1 + 256 * b2)) := by rw [cell_of_row wc P 1 _ _ _ hP]; rfl
    have k2 : wc.cell? ⟨P, 2, none⟩ = some (.int .u8 b3) := by rw [cell_of_row wc P 2 _ _ _ hP]; rfl
    have k3 : wc.cell? ⟨P, 3, none⟩ = some (.bool false) := by rw [cell_of_row wc P 3 _ _ _ hP]; rfl
    have k4 : wc.cell? ⟨P, 4, none⟩ = some (.int .u32 0) := by rw [cell_of_row wc P 4 _ _ _ hP]; rfl
    have k5 : wc.cell? ⟨P, 5, none⟩ = some (.bool false) := by rw [cell_of_row wc P 5 _ _ _ hP]; rfl
    have k6 : wc.cell? ⟨P, 6, none⟩ = some (.slice none 0 0) := by rw [cell_of_row wc P 6 _ _ _ hP]; rfl
    have k7 : wc.cell? ⟨P, 7, none⟩ = some (.bool false) := by rw [cell_of_row wc P 7 _ _ _ hP]; rfl
    have k8 : wc.cell? ⟨P, 8, none⟩ = some (.bool false) := by rw [cell_of_row wc P 8 _ _ _ hP]; rfl
    have k9 : wc.cell? ⟨P, 9, none⟩ = some (.bool false) := by rw [cell_of_row wc P 9 _ _ _ hP]; rfl
    have k10 : wc.cell? ⟨P, 10, none⟩ = some (.int .i64 0) := by rw [cell_of_row wc P 10 _ _ _ hP]; rfl
    have k11 : wc.cell? ⟨P, 11, none⟩ = some (.int .i64 0) := by rw [cell_of_row wc P 11 _ _ _ hP]; rfl
    have k12 : wc.cell? ⟨P, 12, none⟩ = some (.int .u16 0) := by rw [cell_of_row wc P 12 _ _ _ hP]; rfl
    have k13 : wc.cell? ⟨P, 13, none⟩ = some (.int .i64 0) := by rw [cell_of_row wc P 13 _ _ _ hP]; rfl
    have k14 : wc.cell? ⟨P, 14, none⟩ = some (.int .u32 0) := by rw [cell_of_row wc P 14 _ _ _ hP]; rfl
    go_wp2_with (refine wpList_store_by rfl 61 _ _ rfl _ _ rfl rfl (storeCM _ _ _ 0 (b1 + 256 * b2) b3 false 0 false none 0 0 false false false 0 0 0 0 0 _ hrs rfl) ?_)
    have hc := fun j => cell_of_row (wc.setRow (w.heap.size + 1) (cmC 0 (b1 + 256 * b2) b3 false 0 false none 0 0 false false false 0 0 0 0 0)) (w.heap.size + 1) j _ _ _ (setRow_heap _ _ _ _ _ _ hrs)
    exact bodyPost_ret (v := cmV 0 (b1 + 256 * b2) b3 false 0 false none 0 0 false false false 0 0 0 0 0) (by simp [results, Tryz.results61, go_sem, hc]) rfl ⟨none, 0, rfl, told_nil _ _, below_setRow B1 (Nat.le_succ _) _⟩

end Go.Proofs.YtimnpdegoehblaaGreatDoor
