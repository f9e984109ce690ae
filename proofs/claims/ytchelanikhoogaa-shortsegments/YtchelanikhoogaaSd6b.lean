/-
  The walk of the writing of four bytes.
-/
import Derived.Test.YtchelanikhoogaaSd
import Derived.Test.YtchelanikhoogaaSh
import Derived.Deep.DeepCutAuto
namespace Go.Proofs.Ytchelanikhoogaa
open Go.RowKit

set_option linter.unusedSimpArgs false in
set_option maxHeartbeats 4000000 in
set_option maxRecDepth 100000 in
theorem writeQuick_b (f k i s : Int) (n : Int) (q : Bool) (a : Option Addr) (cap : Nat) (t l c : Bool) (b e u m o : Int) (hi : 0 ≤ i ∧ i < 65536) (zs : List Int) (w : World) (hr : Row w a 4 zs) (hR : onlyN i s false n q 4 t l c b e u m o 27 = true) :
    Calls Try.prog 67 #[arr8 f 0 0 0 0 0 0 0, cmV k i s false n q a 4 cap t l c b e u m o] w (WPost w (some ⟨bits .or .u8 f (bits .or .u8 (bits .or .u8 2 (bitv false 1)) 0), i % 256, i / 256, s, zb zs 0, zb zs 1, zb zs 2, zb zs 3⟩)) := by
  have hs := hr.size
  have ho := fun w => only_yes k i s false n q a 4 cap t l c b e u m o 27 (by decide) 27 rfl hR w
  have hcp := fun ty o1 o2 o3 B => copy_chain ty w (ar8 B 0 0 0 0 0 0 0) (ar8 B 0 0 0 (zb zs 0) (zb zs 1) (zb zs 2) (zb zs 3)) (.cells (cmC k i s false n q a 4 cap t l c b e u m o) 29) (.cells (ar8 0 0 0 0 0 0 0 0) 31) o1 o2 o3 4 4 4 a 4 cap zs hr (by omega) (by simp) (over8_4 _ _ _ _ zs (by omega))
  clear hR hr hs
  obtain ⟨z0, hz0⟩ : ∃ z0, zb zs 0 = z0 := ⟨_, rfl⟩
  obtain ⟨z1, hz1⟩ : ∃ z1, zb zs 1 = z1 := ⟨_, rfl⟩
  obtain ⟨z2, hz2⟩ : ∃ z2, zb zs 2 = z2 := ⟨_, rfl⟩
  obtain ⟨z3, hz3⟩ : ∃ z3, zb zs 3 = z3 := ⟨_, rfl⟩
  rw [hz0, hz1, hz2, hz3] at hcp ⊢
  clear hz0 hz1 hz2 hz3
  go_enter Try.func67, Try.ntmps67
  go_wp2_with fail
  with_reducible refine (ho _).mono ?_
  rintro r w1 ⟨rfl, o1, o2, o3, rfl⟩
  clear ho
  go_wp2_with fail
  with_reducible refine (must_true _).mono ?_
  rintro r w1 ⟨rfl, rfl⟩
  go_wp2_with fail
  go_cut [5] from 6 (fun s5 wx => s5 = .int .i64 (4 : Int) ∧ wx = ((((((w.alloc (.cells (ar8 (bits .or .u8 f (bits .or .u8 (bits .or .u8 2 (bitv false 1)) 0)) 0 0 0 0 0 0 0) 31)).alloc (.cells (cmC k i s false n q a 4 cap t l c b e u m o) 29)).alloc (.cells (ar8 0 0 0 0 0 0 0 0) 31)).alloc o1).alloc o2).alloc o3).drew)
  case first =>
    go_region_with (go_at_call 31; refine (bit_any _ _ _).mono ?_; rintro r w1 ⟨rfl, rfl⟩)
    all_goals
      go_wp2_with fail
      go_meet
      exact ⟨rfl, rfl⟩
  case rest =>
    obtain ⟨rfl, rfl⟩ := hcut
    go_wp2_with fail
    go_region
    all_goals
      go_wp2_with fail
      with_reducible refine (withPlace_any _ _ _ _ _ _ _ _ _ _ hi _).mono ?_
      rintro r w1 ⟨rfl, p1, p2, p3, rfl⟩
      go_wp2_with fail
      exact bodyPost_ret (v := arr8 (bits .or .u8 f (bits .or .u8 (bits .or .u8 2 (bitv false 1)) 0)) (i % 256) (i / 256) s z0 z1 z2 z3) (by simp [results, Try.results67, go_sem]) rfl ⟨rfl, (by repeat (first | exact Below.refl _ _ | apply Below.drew | apply Below.al))⟩

set_option linter.unusedSimpArgs false in
set_option maxHeartbeats 4000000 in
set_option maxRecDepth 100000 in
theorem writeQuick_c (f k i s : Int) (n : Int) (q : Bool) (a : Option Addr) (cap : Nat) (t l c : Bool) (b e u m o : Int) (hi : 0 ≤ i ∧ i < 65536) (zs : List Int) (w : World) (hr : Row w a 4 zs) (hR : onlyN i s true n q 4 t l c b e u m o 27 = true) :
    Calls Try.prog 67 #[arr8 f 0 0 0 0 0 0 0, cmV k i s true n q a 4 cap t l c b e u m o] w (WPost w (some ⟨bits .or .u8 f (bits .or .u8 (bits .or .u8 2 (bitv true 1)) 0), i % 256, i / 256, s, zb zs 0, zb zs 1, zb zs 2, zb zs 3⟩)) := by
  have hs := hr.size
  have ho := fun w => only_yes k i s true n q a 4 cap t l c b e u m o 27 (by decide) 27 rfl hR w
  have hcp := fun ty o1 o2 o3 B => copy_chain ty w (ar8 B 0 0 0 0 0 0 0) (ar8 B 0 0 0 (zb zs 0) (zb zs 1) (zb zs 2) (zb zs 3)) (.cells (cmC k i s true n q a 4 cap t l c b e u m o) 29) (.cells (ar8 0 0 0 0 0 0 0 0) 31) o1 o2 o3 4 4 4 a 4 cap zs hr (by omega) (by simp) (over8_4 _ _ _ _ zs (by omega))
  clear hR hr hs
  obtain ⟨z0, hz0⟩ : ∃ z0, zb zs 0 = z0 := ⟨_, rfl⟩
  obtain ⟨z1, hz1⟩ : ∃ z1, zb zs 1 = z1 := ⟨_, rfl⟩
  obtain ⟨z2, hz2⟩ : ∃ z2, zb zs 2 = z2 := ⟨_, rfl⟩
  obtain ⟨z3, hz3⟩ : ∃ z3, zb zs 3 = z3 := ⟨_, rfl⟩
  rw [hz0, hz1, hz2, hz3] at hcp ⊢
  clear hz0 hz1 hz2 hz3
  go_enter Try.func67, Try.ntmps67
  go_wp2_with fail
  with_reducible refine (ho _).mono ?_
  rintro r w1 ⟨rfl, o1, o2, o3, rfl⟩
  clear ho
  go_wp2_with fail
  with_reducible refine (must_true _).mono ?_
  rintro r w1 ⟨rfl, rfl⟩
  go_wp2_with fail
  go_cut [5] from 6 (fun s5 wx => s5 = .int .i64 (4 : Int) ∧ wx = ((((((w.alloc (.cells (ar8 (bits .or .u8 f (bits .or .u8 (bits .or .u8 2 (bitv true 1)) 0)) 0 0 0 0 0 0 0) 31)).alloc (.cells (cmC k i s true n q a 4 cap t l c b e u m o) 29)).alloc (.cells (ar8 0 0 0 0 0 0 0 0) 31)).alloc o1).alloc o2).alloc o3).drew)
  case first =>
    go_region_with (go_at_call 31; refine (bit_any _ _ _).mono ?_; rintro r w1 ⟨rfl, rfl⟩)
    all_goals
      go_wp2_with fail
      go_meet
      exact ⟨rfl, rfl⟩
  case rest =>
    obtain ⟨rfl, rfl⟩ := hcut
    go_wp2_with fail
    go_region
    all_goals
      go_wp2_with fail
      with_reducible refine (withPlace_any _ _ _ _ _ _ _ _ _ _ hi _).mono ?_
      rintro r w1 ⟨rfl, p1, p2, p3, rfl⟩
      go_wp2_with fail
      exact bodyPost_ret (v := arr8 (bits .or .u8 f (bits .or .u8 (bits .or .u8 2 (bitv true 1)) 0)) (i % 256) (i / 256) s z0 z1 z2 z3) (by simp [results, Try.results67, go_sem]) rfl ⟨rfl, (by repeat (first | exact Below.refl _ _ | apply Below.drew | apply Below.al))⟩

#print axioms writeQuick_b
#print axioms writeQuick_c
end Go.Proofs.Ytchelanikhoogaa
