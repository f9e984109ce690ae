/-
  The walk of the writing of less than four bytes, their number told.
  The walk of the writing of four bytes.
  The walk of the writing of a few bytes.
-/
import Derived.Test.YtimnpdegoehblaaGreatDoorSd
import Derived.Test.YtimnpdegoehblaaGreatDoorSh
import Derived.Deep.DeepCutAuto
namespace Go.Proofs.YtimnpdegoehblaaGreatDoor
open Go.RowKit

set_option linter.unusedSimpArgs false in
set_option maxHeartbeats 4000000 in
set_option maxRecDepth 100000 in
theorem writeQuick_a (f k i s : Int) (n : Int) (q : Bool) (a : Option Addr) (len cap : Nat) (t l c : Bool) (b e u m o : Int) (hi : 0 ≤ i ∧ i < 65536) (zs : List Int) (w : World) (hr : Row w a len zs) (hR : onlyN i s true n q len t l c b e u m o 27 = true) (hl1 : 1 ≤ len) (hl4 : len ≤ 3) :
    Calls Tryz.prog 97 #[arr8 f 0 0 0 0 0 0 0, cmV k i s true n q a len cap t l c b e u m o] w (WPost w (some ⟨bits .or .u8 f (bits .or .u8 (bits .or .u8 2 (bitv true 1)) ((4 - (len : Int)) * 4)), i % 256, i / 256, s, zb zs 0, zb zs 1, zb zs 2, zb zs 3⟩)) := by
  have hs := hr.size
  have ho := fun w => only_yes k i s true n q a len cap t l c b e u m o 27 (by decide) 27 rfl hR w
  have hcp := fun ty o1 o2 o3 B => copy_chain ty w (ar8 B 0 0 0 0 0 0 0) (ar8 B 0 0 0 (zb zs 0) (zb zs 1) (zb zs 2) (zb zs 3)) (.cells (cmC k i s true n q a len cap t l c b e u m o) 61) (.cells (ar8 0 0 0 0 0 0 0 0) 23) o1 o2 o3 4 4 4 a len cap zs hr (by omega) (by simp) (over8_4 _ _ _ _ zs (by omega))
  have e0 : IntKind.i64.wrap (4 - (len : Int)) = 4 - (len : Int) := by simp [IntKind.wrap, IntKind.bits, IntKind.signed]; omega
  have e1 : IntKind.u8.wrap (4 - (len : Int)) = 4 - (len : Int) := by rw [wrap8]; omega
  have e2 : IntKind.u8.wrap ((4 - (len : Int)) * 4) = (4 - (len : Int)) * 4 := by rw [wrap8]; omega
  have l1 : (1 : Int) ≤ (len : Int) := by omega
  have l4 : (len : Int) < 4 := by omega
  have hm : ((len : Int) == 4) = false := by simp; omega
  clear hR hr hs
  obtain ⟨z0, hz0⟩ : ∃ z0, zb zs 0 = z0 := ⟨_, rfl⟩
  obtain ⟨z1, hz1⟩ : ∃ z1, zb zs 1 = z1 := ⟨_, rfl⟩
  obtain ⟨z2, hz2⟩ : ∃ z2, zb zs 2 = z2 := ⟨_, rfl⟩
  obtain ⟨z3, hz3⟩ : ∃ z3, zb zs 3 = z3 := ⟨_, rfl⟩
  rw [hz0, hz1, hz2, hz3] at hcp ⊢
  clear hz0 hz1 hz2 hz3
  go_enter Tryz.func97, Tryz.ntmps97
  go_wp2_with fail
  with_reducible refine (ho _).mono ?_
  rintro r w1 ⟨rfl, o1, o2, o3, rfl⟩
  clear ho
  go_wp2_with fail
  with_reducible refine (must_true _).mono ?_
  rintro r w1 ⟨rfl, rfl⟩
  go_wp2_with fail
  go_cut [5] from 6 (fun s5 wx => s5 = .int .i64 (len : Int) ∧ wx = ((((((w.alloc (.cells (ar8 (bits .or .u8 f (bits .or .u8 (bits .or .u8 2 (bitv true 1)) ((4 - (len : Int)) * 4))) 0 0 0 0 0 0 0) 23)).alloc (.cells (cmC k i s true n q a len cap t l c b e u m o) 61)).alloc (.cells (ar8 0 0 0 0 0 0 0 0) 23)).alloc o1).alloc o2).alloc o3).drew)
  case first =>
    go_region_with (go_at_call 100; refine (bit_any _ _ _).mono ?_; rintro r w1 ⟨rfl, rfl⟩)
    all_goals
      go_wp2_with fail
      go_meet
      exact ⟨rfl, rfl⟩
  case rest =>
    obtain ⟨rfl, rfl⟩ := hcut
    go_wp2_with fail
    go_region
    all_goals
      go_wp2_with fail
      with_reducible refine (withPlace_any _ _ _ _ _ _ _ _ _ _ hi _).mono ?_
      rintro r w1 ⟨rfl, p1, p2, p3, rfl⟩
      go_wp2_with fail
      exact bodyPost_ret (v := arr8 (bits .or .u8 f (bits .or .u8 (bits .or .u8 2 (bitv true 1)) ((4 - (len : Int)) * 4))) (i % 256) (i / 256) s z0 z1 z2 z3) (by simp [results, Tryz.results97, go_sem]) rfl ⟨rfl, (by repeat (first | exact Below.refl _ _ | apply Below.drew | apply Below.al))⟩

#print axioms writeQuick_a
end Go.Proofs.YtimnpdegoehblaaGreatDoor
namespace Go.Proofs.YtimnpdegoehblaaGreatDoor
open Go.RowKit

set_option linter.unusedSimpArgs false in
set_option maxHeartbeats 4000000 in
set_option maxRecDepth 100000 in
theorem writeQuick_b (f k i s : Int) (n : Int) (q : Bool) (a : Option Addr) (cap : Nat) (t l c : Bool) (b e u m o : Int) (hi : 0 ≤ i ∧ i < 65536) (zs : List Int) (w : World) (hr : Row w a 4 zs) (hR : onlyN i s false n q 4 t l c b e u m o 27 = true) :
    Calls Tryz.prog 97 #[arr8 f 0 0 0 0 0 0 0, cmV k i s false n q a 4 cap t l c b e u m o] w (WPost w (some ⟨bits .or .u8 f (bits .or .u8 (bits .or .u8 2 (bitv false 1)) 0), i % 256, i / 256, s, zb zs 0, zb zs 1, zb zs 2, zb zs 3⟩)) := by
  have hs := hr.size
  have ho := fun w => only_yes k i s false n q a 4 cap t l c b e u m o 27 (by decide) 27 rfl hR w
  have hcp := fun ty o1 o2 o3 B => copy_chain ty w (ar8 B 0 0 0 0 0 0 0) (ar8 B 0 0 0 (zb zs 0) (zb zs 1) (zb zs 2) (zb zs 3)) (.cells (cmC k i s false n q a 4 cap t l c b e u m o) 61) (.cells (ar8 0 0 0 0 0 0 0 0) 23) o1 o2 o3 4 4 4 a 4 cap zs hr (by omega) (by simp) (over8_4 _ _ _ _ zs (by omega))
  clear hR hr hs
  obtain ⟨z0, hz0⟩ : ∃ z0, zb zs 0 = z0 := ⟨_, rfl⟩
  obtain ⟨z1, hz1⟩ : ∃ z1, zb zs 1 = z1 := ⟨_, rfl⟩
  obtain ⟨z2, hz2⟩ : ∃ z2, zb zs 2 = z2 := ⟨_, rfl⟩
  obtain ⟨z3, hz3⟩ : ∃ z3, zb zs 3 = z3 := ⟨_, rfl⟩
  rw [hz0, hz1, hz2, hz3] at hcp ⊢
  clear hz0 hz1 hz2 hz3
  go_enter Tryz.func97, Tryz.ntmps97
  go_wp2_with fail
  with_reducible refine (ho _).mono ?_
  rintro r w1 ⟨rfl, o1, o2, o3, rfl⟩
  clear ho
  go_wp2_with fail
  with_reducible refine (must_true _).mono ?_
  rintro r w1 ⟨rfl, rfl⟩
  go_wp2_with fail
  go_cut [5] from 6 (fun s5 wx => s5 = .int .i64 (4 : Int) ∧ wx = ((((((w.alloc (.cells (ar8 (bits .or .u8 f (bits .or .u8 (bits .or .u8 2 (bitv false 1)) 0)) 0 0 0 0 0 0 0) 23)).alloc (.cells (cmC k i s false n q a 4 cap t l c b e u m o) 61)).alloc (.cells (ar8 0 0 0 0 0 0 0 0) 23)).alloc o1).alloc o2).alloc o3).drew)
  case first =>
    go_region_with (go_at_call 100; refine (bit_any _ _ _).mono ?_; rintro r w1 ⟨rfl, rfl⟩)
    all_goals
      go_wp2_with fail
      go_meet
      exact ⟨rfl, rfl⟩
  case rest =>
    obtain ⟨rfl, rfl⟩ := hcut
    go_wp2_with fail
    go_region
    all_goals
      go_wp2_with fail
      with_reducible refine (withPlace_any _ _ _ _ _ _ _ _ _ _ hi _).mono ?_
      rintro r w1 ⟨rfl, p1, p2, p3, rfl⟩
      go_wp2_with fail
      exact bodyPost_ret (v := arr8 (bits .or .u8 f (bits .or .u8 (bits .or .u8 2 (bitv false 1)) 0)) (i % 256) (i / 256) s z0 z1 z2 z3) (by simp [results, Tryz.results97, go_sem]) rfl ⟨rfl, (by repeat (first | exact Below.refl _ _ | apply Below.drew | apply Below.al))⟩

set_option linter.unusedSimpArgs false in
set_option maxHeartbeats 4000000 in
set_option maxRecDepth 100000 in
theorem writeQuick_c (f k i s : Int) (n : Int) (q : Bool) (a : Option Addr) (cap : Nat) (t l c : Bool) (b e u m o : Int) (hi : 0 ≤ i ∧ i < 65536) (zs : List Int) (w : World) (hr : Row w a 4 zs) (hR : onlyN i s true n q 4 t l c b e u m o 27 = true) :
    Calls Tryz.prog 97 #[arr8 f 0 0 0 0 0 0 0, cmV k i s true n q a 4 cap t l c b e u m o] w (WPost w (some ⟨bits .or .u8 f (bits .or .u8 (bits .or .u8 2 (bitv true 1)) 0), i % 256, i / 256, s, zb zs 0, zb zs 1, zb zs 2, zb zs 3⟩)) := by
  have hs := hr.size
  have ho := fun w => only_yes k i s true n q a 4 cap t l c b e u m o 27 (by decide) 27 rfl hR w
  have hcp := fun ty o1 o2 o3 B => copy_chain ty w (ar8 B 0 0 0 0 0 0 0) (ar8 B 0 0 0 (zb zs 0) (zb zs 1) (zb zs 2) (zb zs 3)) (.cells (cmC k i s true n q a 4 cap t l c b e u m o) 61) (.cells (ar8 0 0 0 0 0 0 0 0) 23) o1 o2 o3 4 4 4 a 4 cap zs hr (by omega) (by simp) (over8_4 _ _ _ _ zs (by omega))
  clear hR hr hs
  obtain ⟨z0, hz0⟩ : ∃ z0, zb zs 0 = z0 := ⟨_, rfl⟩
  obtain ⟨z1, hz1⟩ : ∃ z1, zb zs 1 = z1 := ⟨_, rfl⟩
  obtain ⟨z2, hz2⟩ : ∃ z2, zb zs 2 = z2 := ⟨_, rfl⟩
  obtain ⟨z3, hz3⟩ : ∃ z3, zb zs 3 = z3 := ⟨_, rfl⟩
  rw [hz0, hz1, hz2, hz3] at hcp ⊢
  clear hz0 hz1 hz2 hz3
  go_enter Tryz.func97, Tryz.ntmps97
  go_wp2_with fail
  with_reducible refine (ho _).mono ?_
  rintro r w1 ⟨rfl, o1, o2, o3, rfl⟩
  clear ho
  go_wp2_with fail
  with_reducible refine (must_true _).mono ?_
  rintro r w1 ⟨rfl, rfl⟩
  go_wp2_with fail
  go_cut [5] from 6 (fun s5 wx => s5 = .int .i64 (4 : Int) ∧ wx = ((((((w.alloc (.cells (ar8 (bits .or .u8 f (bits .or .u8 (bits .or .u8 2 (bitv true 1)) 0)) 0 0 0 0 0 0 0) 23)).alloc (.cells (cmC k i s true n q a 4 cap t l c b e u m o) 61)).alloc (.cells (ar8 0 0 0 0 0 0 0 0) 23)).alloc o1).alloc o2).alloc o3).drew)
  case first =>
    go_region_with (go_at_call 100; refine (bit_any _ _ _).mono ?_; rintro r w1 ⟨rfl, rfl⟩)
    all_goals
      go_wp2_with fail
      go_meet
      exact ⟨rfl, rfl⟩
  case rest =>
    obtain ⟨rfl, rfl⟩ := hcut
    go_wp2_with fail
    go_region
    all_goals
      go_wp2_with fail
      with_reducible refine (withPlace_any _ _ _ _ _ _ _ _ _ _ hi _).mono ?_
      rintro r w1 ⟨rfl, p1, p2, p3, rfl⟩
      go_wp2_with fail
      exact bodyPost_ret (v := arr8 (bits .or .u8 f (bits .or .u8 (bits .or .u8 2 (bitv true 1)) 0)) (i % 256) (i / 256) s z0 z1 z2 z3) (by simp [results, Tryz.results97, go_sem]) rfl ⟨rfl, (by repeat (first | exact Below.refl _ _ | apply Below.drew | apply Below.al))⟩

#print axioms writeQuick_b
#print axioms writeQuick_c
end Go.Proofs.YtimnpdegoehblaaGreatDoor
namespace Go.Proofs.YtimnpdegoehblaaGreatDoor
open Go.RowKit

/-- May a quick one have so many bytes? -/
def quickOk (z : Bool) (len : Nat) : Bool := len == 4 || (z && (decide (1 ≤ len) && decide (len < 4)))
/-- Its first byte. -/
def q0 (f : Int) (z : Bool) (len : Nat) : Int := bits .or .u8 f (bits .or .u8 (bits .or .u8 2 (bitv z 1)) ((4 - (len : Int)) * 4))

set_option linter.unusedSimpArgs false in
set_option maxHeartbeats 4000000 in
set_option maxRecDepth 100000 in
theorem writeQuick_any (f k i s : Int) (z : Bool) (n : Int) (q : Bool) (a : Option Addr) (len cap : Nat) (t l c : Bool) (b e u m o : Int) (hi : 0 ≤ i ∧ i < 65536) (zs : List Int) (w : World) (hr : Row w a len zs) :
    Calls Tryz.prog 97 #[arr8 f 0 0 0 0 0 0 0, cmV k i s z n q a len cap t l c b e u m o] w (WPost w (if onlyN i s z n q len t l c b e u m o 27 && quickOk z len then some ⟨q0 f z len, i % 256, i / 256, s, zb zs 0, zb zs 1, zb zs 2, zb zs 3⟩ else none)) := by
  obtain ⟨R, hR⟩ : ∃ R, onlyN i s z n q len t l c b e u m o 27 = R := ⟨_, rfl⟩
  cases R
  · rw [hR]
    have ho := fun w => only_no k i s z n q a len cap t l c b e u m o 27 (by decide) 27 rfl hR w
    clear hR hr
    go_enter Tryz.func97, Tryz.ntmps97
    go_wp2_with fail
    with_reducible refine (ho _).mono ?_
    rintro r w1 ⟨rfl, o1, o2, o3, rfl⟩
    clear ho
    go_wp2_with fail
    exact ⟨rfl, rfl, (by repeat (first | exact Below.refl _ _ | apply Below.drew | apply Below.al))⟩
  have ho := fun w => only_yes k i s z n q a len cap t l c b e u m o 27 (by decide) 27 rfl hR w
  by_cases h4 : len = 4
  · subst h4
    have hqk : quickOk z 4 = true := by simp [quickOk]
    have hq0 : ∀ y, q0 f y 4 = bits .or .u8 f (bits .or .u8 (bits .or .u8 2 (bitv y 1)) 0) := fun y => by unfold q0; rw [show ((4 : Int) - ((4 : Nat) : Int)) * 4 = 0 from rfl]
    rw [hR, hqk, hq0]
    simp only [Bool.and_self, if_true]
    cases z
    · exact writeQuick_b f k i s n q a cap t l c b e u m o hi zs w hr hR
    · exact writeQuick_c f k i s n q a cap t l c b e u m o hi zs w hr hR
  have m4 : ((len : Int) == 4) = false := by simp; omega
  cases z
  · have hqk : quickOk false len = false := by simp [quickOk, h4]
    rw [hR, hqk]
    clear hR hqk hr
    go_enter Tryz.func97, Tryz.ntmps97
    go_wp2_with fail
    with_reducible refine (ho _).mono ?_
    rintro r w1 ⟨rfl, o1, o2, o3, rfl⟩
    clear ho
    go_wp2_with fail
    with_reducible refine (must_false _).mono ?_
    rintro r w1 ⟨rfl, rfl⟩
    go_wp2_with fail
    exact ⟨rfl, rfl, (by repeat (first | exact Below.refl _ _ | apply Below.drew | apply Below.al))⟩
  by_cases h1 : 1 ≤ len ∧ len ≤ 3
  · have hqk : quickOk true len = true := by simp [quickOk]; omega
    rw [hR, hqk]
    simp only [Bool.and_self, if_true]
    exact writeQuick_a f k i s n q a len cap t l c b e u m o hi zs w hr hR h1.1 h1.2
  · have hqk : quickOk true len = false := by simp [quickOk]; omega
    rw [hR, hqk]
    clear hR hqk hr
    by_cases h0 : len = 0
    · subst h0
      go_enter Tryz.func97, Tryz.ntmps97
      go_wp2_with fail
      with_reducible refine (ho _).mono ?_
      rintro r w1 ⟨rfl, o1, o2, o3, rfl⟩
      clear ho
      go_wp2_with fail
      with_reducible refine (must_false _).mono ?_
      rintro r w1 ⟨rfl, rfl⟩
      go_wp2_with fail
      exact ⟨rfl, rfl, (by repeat (first | exact Below.refl _ _ | apply Below.drew | apply Below.al))⟩
    · have l1 : (1 : Int) ≤ (len : Int) := by omega
      have l2 : decide ((len : Int) < 4) = false := decide_eq_false (by omega)
      go_enter Tryz.func97, Tryz.ntmps97
      go_wp2_with fail
      with_reducible refine (ho _).mono ?_
      rintro r w1 ⟨rfl, o1, o2, o3, rfl⟩
      clear ho
      go_wp2_with fail
      with_reducible refine (must_false _).mono ?_
      rintro r w1 ⟨rfl, rfl⟩
      go_wp2_with fail
      exact ⟨rfl, rfl, (by repeat (first | exact Below.refl _ _ | apply Below.drew | apply Below.al))⟩

#print axioms writeQuick_any
end Go.Proofs.YtimnpdegoehblaaGreatDoor
