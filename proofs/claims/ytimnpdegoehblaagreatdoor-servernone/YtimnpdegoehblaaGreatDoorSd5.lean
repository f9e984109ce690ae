/-
  The walk of the writing of a size, told.
  The walk of the writing of a size that is not told.
  The walk of the writing of a size.
-/
import Derived.Test.YtimnpdegoehblaaGreatDoorSd
import Derived.Deep.DeepCutAuto
namespace Go.Proofs.YtimnpdegoehblaaGreatDoor
open Go.RowKit

set_option linter.unusedSimpArgs false in
set_option maxHeartbeats 4000000 in
set_option maxRecDepth 100000 in
theorem writeSize_t (f k i s : Int) (z : Bool) (n : Int) (q : Bool) (a : Option Addr) (len cap : Nat) (t l c : Bool) (b e u m o : Int) (hi : 0 ≤ i ∧ i < 65536) (hn : 0 ≤ n ∧ n < 4294967296) (hz : z = true) (hR : onlyN i s z n q len t l c b e u m o 135 = true) (w : World) :
    Calls Tryz.prog 70 #[arr8 f 0 0 0 0 0 0 0, cmV k i s z n q a len cap t l c b e u m o] w (WPost w (if onlyN i s z n q len t l c b e u m o 135 && (z || n == 0) then some ⟨bits .or .u8 f (bits .or .u8 (bitv c 4) (bitv z 2)), i % 256, i / 256, s, n % 256, n / 256 % 256, n / 65536 % 256, n / 16777216⟩ else none)) := by
  subst hz
  have ho := fun w => only_yes k i s true n q a len cap t l c b e u m o 135 (by decide) 135 rfl hR w
  rw [hR]
  clear hR
  · go_enter Tryz.func70, Tryz.ntmps70
    go_wp2_with fail
    with_reducible refine (ho _).mono ?_
    rintro r w1 ⟨rfl, o1, o2, o3, rfl⟩
    clear ho
    go_wp2_with fail
    with_reducible refine (must_true _).mono ?_
    rintro r w1 ⟨rfl, rfl⟩
    go_wp2_with fail
    go_cut [] from 5 (fun wx => wx = ((((((w.alloc (.cells (ar8 (bits .or .u8 f (bits .or .u8 (bitv c 4) (bitv true 2))) (0) (0) (0) (0) (0) (0) (0)) 23)).alloc (.cells (cmC k i s true n q a len cap t l c b e u m o) 61)).alloc (.cells (ar8 0 0 0 0 0 0 0 0) 23)).alloc o1).alloc o2).alloc o3).drew)
    case first =>
      go_region_with (go_at_call 100; refine (bit_any _ _ _).mono ?_; rintro r w1 ⟨rfl, rfl⟩)
      all_goals
        go_wp2_with fail
        go_meet
        exact rfl
    case rest =>
      obtain rfl := hcut
      go_wp2_with fail
      go_region_held3 (fun x => x.cell? ⟨w.heap.size, 0, none⟩ = some (.int .u8 (bits .or .u8 f (bits .or .u8 (bitv c 4) (bitv true 2)))) ∧ x.cell? ⟨w.heap.size, 1, none⟩ = some (.int .u8 (0)) ∧ x.cell? ⟨w.heap.size, 2, none⟩ = some (.int .u8 (0)) ∧ x.cell? ⟨w.heap.size, 3, none⟩ = some (.int .u8 (0)) ∧ x.cell? ⟨w.heap.size, 4, none⟩ = some (.int .u8 (0)) ∧ x.cell? ⟨w.heap.size, 5, none⟩ = some (.int .u8 (0)) ∧ x.cell? ⟨w.heap.size, 6, none⟩ = some (.int .u8 (0)) ∧ x.cell? ⟨w.heap.size, 7, none⟩ = some (.int .u8 (0)) ∧ x.cell? ⟨w.heap.size + 1, 1, none⟩ = some (.int .u16 i) ∧ x.cell? ⟨w.heap.size + 1, 2, none⟩ = some (.int .u8 s) ∧ x.cell? ⟨w.heap.size + 1, 4, none⟩ = some (.int .u32 n)) ((simp [go_sem]; done)) (first | ((go_at_call 102; with_reducible refine (withPlace_any _ _ _ _ _ _ _ _ _ _ hi _).mono ?_; rintro r w1 ⟨rfl, p1, p2, p3, rfl⟩)) | ((go_at_call 101; with_reducible refine (withNumber_any _ _ _ _ _ _ _ _ _ hn _).mono ?_; rintro r w1 ⟨rfl, q1, q2, rfl⟩)))
      all_goals
        go_wp2_with fail
        exact bodyPost_ret (v := arr8 (bits .or .u8 f (bits .or .u8 (bitv c 4) (bitv true 2))) (i % 256) (i / 256) s (n % 256) (n / 256 % 256) (n / 65536 % 256) (n / 16777216)) (by simp [results, Tryz.results70, go_sem]) rfl ⟨rfl, (by repeat (first | exact Below.refl _ _ | apply Below.drew | apply Below.al))⟩

#print axioms writeSize_t
end Go.Proofs.YtimnpdegoehblaaGreatDoor
namespace Go.Proofs.YtimnpdegoehblaaGreatDoor
open Go.RowKit

set_option linter.unusedSimpArgs false in
set_option maxHeartbeats 4000000 in
set_option maxRecDepth 100000 in
theorem writeSize_f (f k i s : Int) (z : Bool) (n : Int) (q : Bool) (a : Option Addr) (len cap : Nat) (t l c : Bool) (b e u m o : Int) (hi : 0 ≤ i ∧ i < 65536) (hn : 0 ≤ n ∧ n < 4294967296) (hz : z = false) (h1 : n = 0) (hR : onlyN i s z n q len t l c b e u m o 135 = true) (w : World) :
    Calls Tryz.prog 70 #[arr8 f 0 0 0 0 0 0 0, cmV k i s z n q a len cap t l c b e u m o] w (WPost w (if onlyN i s z n q len t l c b e u m o 135 && (z || n == 0) then some ⟨bits .or .u8 f (bits .or .u8 (bitv c 4) (bitv z 2)), i % 256, i / 256, s, n % 256, n / 256 % 256, n / 65536 % 256, n / 16777216⟩ else none)) := by
  subst hz h1
  have ho := fun w => only_yes k i s false 0 q a len cap t l c b e u m o 135 (by decide) 135 rfl hR w
  rw [hR]
  clear hR
  · go_enter Tryz.func70, Tryz.ntmps70
    go_wp2_with fail
    with_reducible refine (ho _).mono ?_
    rintro r w1 ⟨rfl, o1, o2, o3, rfl⟩
    clear ho
    go_wp2_with fail
    with_reducible refine (must_true _).mono ?_
    rintro r w1 ⟨rfl, rfl⟩
    go_wp2_with fail
    go_cut [] from 5 (fun wx => wx = ((((((w.alloc (.cells (ar8 (bits .or .u8 f (bits .or .u8 (bitv c 4) (bitv false 2))) (0) (0) (0) (0) (0) (0) (0)) 23)).alloc (.cells (cmC k i s false 0 q a len cap t l c b e u m o) 61)).alloc (.cells (ar8 0 0 0 0 0 0 0 0) 23)).alloc o1).alloc o2).alloc o3).drew)
    case first =>
      go_region_with (go_at_call 100; refine (bit_any _ _ _).mono ?_; rintro r w1 ⟨rfl, rfl⟩)
      all_goals
        go_wp2_with fail
        go_meet
        exact rfl
    case rest =>
      obtain rfl := hcut
      go_wp2_with fail
      go_region_held3 (fun x => x.cell? ⟨w.heap.size, 0, none⟩ = some (.int .u8 (bits .or .u8 f (bits .or .u8 (bitv c 4) (bitv false 2)))) ∧ x.cell? ⟨w.heap.size, 1, none⟩ = some (.int .u8 (0)) ∧ x.cell? ⟨w.heap.size, 2, none⟩ = some (.int .u8 (0)) ∧ x.cell? ⟨w.heap.size, 3, none⟩ = some (.int .u8 (0)) ∧ x.cell? ⟨w.heap.size, 4, none⟩ = some (.int .u8 (0)) ∧ x.cell? ⟨w.heap.size, 5, none⟩ = some (.int .u8 (0)) ∧ x.cell? ⟨w.heap.size, 6, none⟩ = some (.int .u8 (0)) ∧ x.cell? ⟨w.heap.size, 7, none⟩ = some (.int .u8 (0)) ∧ x.cell? ⟨w.heap.size + 1, 1, none⟩ = some (.int .u16 i) ∧ x.cell? ⟨w.heap.size + 1, 2, none⟩ = some (.int .u8 s) ∧ x.cell? ⟨w.heap.size + 1, 4, none⟩ = some (.int .u32 0)) ((simp [go_sem]; done)) (first | ((go_at_call 102; with_reducible refine (withPlace_any _ _ _ _ _ _ _ _ _ _ hi _).mono ?_; rintro r w1 ⟨rfl, p1, p2, p3, rfl⟩)) | ((go_at_call 101; with_reducible refine (withNumber_any _ _ _ _ _ _ _ _ _ (by decide) _).mono ?_; rintro r w1 ⟨rfl, q1, q2, rfl⟩)))
      all_goals
        go_wp2_with fail
        exact bodyPost_ret (v := arr8 (bits .or .u8 f (bits .or .u8 (bitv c 4) (bitv false 2))) (i % 256) (i / 256) s (0) (0) (0) (0)) (by simp [results, Tryz.results70, go_sem]) rfl ⟨rfl, (by repeat (first | exact Below.refl _ _ | apply Below.drew | apply Below.al))⟩

#print axioms writeSize_f
end Go.Proofs.YtimnpdegoehblaaGreatDoor
namespace Go.Proofs.YtimnpdegoehblaaGreatDoor
open Go.RowKit

set_option linter.unusedSimpArgs false in
set_option maxHeartbeats 4000000 in
set_option maxRecDepth 100000 in
theorem writeSize_any (f k i s : Int) (z : Bool) (n : Int) (q : Bool) (a : Option Addr) (len cap : Nat) (t l c : Bool) (b e u m o : Int) (hi : 0 ≤ i ∧ i < 65536) (hn : 0 ≤ n ∧ n < 4294967296) (w : World) :
    Calls Tryz.prog 70 #[arr8 f 0 0 0 0 0 0 0, cmV k i s z n q a len cap t l c b e u m o] w (WPost w (if onlyN i s z n q len t l c b e u m o 135 && (z || n == 0) then some ⟨bits .or .u8 f (bits .or .u8 (bitv c 4) (bitv z 2)), i % 256, i / 256, s, n % 256, n / 256 % 256, n / 65536 % 256, n / 16777216⟩ else none)) := by
  obtain ⟨R, hR⟩ : ∃ R, onlyN i s z n q len t l c b e u m o 135 = R := ⟨_, rfl⟩
  cases R
  · rw [hR]
    have ho := fun w => only_no k i s z n q a len cap t l c b e u m o 135 (by decide) 135 rfl hR w
    clear hR
    go_enter Tryz.func70, Tryz.ntmps70
    go_wp2_with fail
    with_reducible refine (ho _).mono ?_
    rintro r w1 ⟨rfl, o1, o2, o3, rfl⟩
    clear ho
    go_wp2_with fail
    exact ⟨rfl, rfl, (by repeat (first | exact Below.refl _ _ | apply Below.drew | apply Below.al))⟩
  cases z
  · by_cases h1 : n = 0
    · exact writeSize_f f k i s false n q a len cap t l c b e u m o hi hn rfl h1 hR w
    · have h1' : (n == 0) = false := by simpa using h1
      have ho := fun w => only_yes k i s false n q a len cap t l c b e u m o 135 (by decide) 135 rfl hR w
      rw [hR, h1']
      clear hR
      go_enter Tryz.func70, Tryz.ntmps70
      go_wp2_with fail
      with_reducible refine (ho _).mono ?_
      rintro r w1 ⟨rfl, o1, o2, o3, rfl⟩
      clear ho
      go_wp2_with fail
      with_reducible refine (must_false _).mono ?_
      rintro r w1 ⟨rfl, rfl⟩
      go_wp2_with fail
      exact ⟨rfl, rfl, (by repeat (first | exact Below.refl _ _ | apply Below.drew | apply Below.al))⟩
  · exact writeSize_t f k i s true n q a len cap t l c b e u m o hi hn rfl hR w

#print axioms writeSize_any
end Go.Proofs.YtimnpdegoehblaaGreatDoor
