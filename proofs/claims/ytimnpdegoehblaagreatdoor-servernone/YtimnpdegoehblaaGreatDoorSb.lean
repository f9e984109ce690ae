/-
  The walks of fieldsOf and only: which fields of a command are not zero.
-/
import Derived.Test.YtimnpdegoehblaaGreatDoorSa
namespace Go.Proofs.YtimnpdegoehblaaGreatDoor
open Go.RowKit

/-- A bit, if something is so. -/
def fb (x : Bool) (n : Nat) : Nat := if x then n else 0
theorem fb_and (x : Bool) (n m : Nat) : fb x n &&& m = fb x (n &&& m) := by cases x <;> simp [fb]
theorem fb_zero (x : Bool) : fb x 0 = 0 := by cases x <;> rfl
theorem fb_eq (x : Bool) (n : Nat) (h : n ≠ 0) : fb x n = 0 ↔ x = false := by cases x <;> simp [fb, h]
/-- Bits more. -/
def orb (a : Nat) (n : Nat) (x : Bool) : Nat := if x then a ||| n else a
theorem orb_fb (a n : Nat) (x : Bool) : orb a n x = a ||| fb x n := by cases x <;> simp [orb, fb]
theorem orb_lt (a n : Nat) (x : Bool) (ha : a < 65536) (hn : n < 65536) : orb a n x < 65536 := by
  unfold orb; split
  · exact Nat.or_lt_two_pow (n := 16) ha hn
  · exact ha
/-- The fields that are not zero. -/
def flN (i s : Int) (z : Bool) (n : Int) (q : Bool) (len : Nat) (t l c : Bool) (b e u m o : Int) : Nat :=
  orb (orb (orb (orb (orb (orb (orb (orb (orb (orb (orb (orb (orb 0 1 (!i == 0 || !s == 0)) 2 z) 4 (n != 0)) 8 q) 16 ((len : Int) != 0)) 32 t) 64 l) 128 c) 256 (b != 0)) 512 (e != 0)) 1024 (u != 0)) 2048 (m != 0)) 4096 (o != 0)
/-- Is all zero but these fields? -/
def onlyN (i s : Int) (z : Bool) (n : Int) (q : Bool) (len : Nat) (t l c : Bool) (b e u m o : Int) (has : Nat) : Bool := (flN i s z n q len t l c b e u m o &&& (65535 - has)) == 0

theorem or16_nat (A f : Nat) (hA : A < 65536) (hf : f < 65536) : bits .or .u16 (A : Int) (f : Int) = ((A ||| f : Nat) : Int) := u16_or_nat A f hA hf

set_option linter.unusedSimpArgs false in
set_option maxHeartbeats 4000000 in
set_option maxRecDepth 100000 in
theorem add_any (w0 : World) (p A f : Nat) (x : Bool) (A' f' : Int) (hp : p = w0.heap.size) (hA : A < 65536) (hf : f < 65536) (eA : A' = (A : Int)) (ef : f' = (f : Int)) :
    Calls Tryz.prog 128 #[.int .u16 f', .bool x, .pointer (some ⟨p, 0, none⟩)] (w0.alloc (.cells #[.int .u16 A'] 128)) fun e w' => e = .returned (.tuple #[]) ∧ w' = w0.alloc (.cells #[.int .u16 ((orb A f x : Nat) : Int)] 128) := by
  subst hp eA ef
  have ho := or16_nat A f hA hf
  cases x
  · go_enter Tryz.func128, Tryz.ntmps128
    go_wp2_with fail
    go_end0
    exact ⟨rfl, rfl⟩
  · have H : Hid (((orb A f true : Nat) : Int) = ((A ||| f : Nat) : Int)) := rfl
    go_enter Tryz.func128, Tryz.ntmps128
    go_wp2_with fail
    go_end0
    rw [H.out]
    exact ⟨rfl, rfl⟩
#print axioms add_any

set_option linter.unusedSimpArgs false in
set_option maxHeartbeats 4000000 in
set_option maxRecDepth 100000 in
theorem fieldsOf_any (k i s : Int) (z : Bool) (n : Int) (q : Bool) (a : Option Addr) (len cap : Nat) (t l c : Bool) (b e u m o : Int) (w : World) :
    Calls Tryz.prog 118 #[cmV k i s z n q a len cap t l c b e u m o] w fun r w' => r = .returned (.int .u16 ((flN i s z n q len t l c b e u m o : Nat) : Int)) ∧ ∃ o1 o2, w' = (w.alloc o1).alloc o2 := by
  have hmf : ∀ (fn : Fn) (first cap : Array Value) (w : World), (Instr.makeFunc fn first cap).run Tryz.prog w = .ok (.func fn first cap) w := fun _ _ _ _ => rfl
  have hP := fun w => neqP w i s 0 0
  have HL : Hid (∀ A f x, A < 65536 → f < 65536 → orb A f x < 65536) := fun A f x => orb_lt A f x
  go_enter Tryz.func118, Tryz.ntmps118
  go_wp2_with fail
  have H0 : 0 < 65536 := (by decide)
  with_reducible refine (add_any (w.alloc (.cells (cmC k i s z n q a len cap t l c b e u m o) 61)) (w.heap.size + 1) (0) 1 (!i == 0 || !s == 0) (0) 1 (by simp) H0 (by decide) rfl rfl).mono ?_
  rintro r w' ⟨rfl, rfl⟩
  clear H0
  have HB0 : Hid (orb (0) 1 (!i == 0 || !s == 0) < 65536) := HL.out _ _ _ (by decide) (by decide)
  obtain ⟨A0, HA0⟩ : ∃ A, Hid (orb (0) 1 (!i == 0 || !s == 0) = A) := ⟨_, rfl⟩
  rw [HA0.out] at HB0 ⊢
  go_wp2_with fail
  have H1 : A0 < 65536 := HB0.out
  with_reducible refine (add_any (w.alloc (.cells (cmC k i s z n q a len cap t l c b e u m o) 61)) (w.heap.size + 1) (A0) 2 (z) ((A0 : Int)) 2 (by simp) H1 (by decide) rfl rfl).mono ?_
  rintro r w' ⟨rfl, rfl⟩
  clear H1
  have HB1 : Hid (orb (A0) 2 (z) < 65536) := HL.out _ _ _ HB0.out (by decide)
  obtain ⟨A1, HA1⟩ : ∃ A, Hid (orb (A0) 2 (z) = A) := ⟨_, rfl⟩
  rw [HA1.out] at HB1 ⊢
  go_wp2_with fail
  have H2 : A1 < 65536 := HB1.out
  with_reducible refine (add_any (w.alloc (.cells (cmC k i s z n q a len cap t l c b e u m o) 61)) (w.heap.size + 1) (A1) 4 (n != 0) ((A1 : Int)) 4 (by simp) H2 (by decide) rfl rfl).mono ?_
  rintro r w' ⟨rfl, rfl⟩
  clear H2
  have HB2 : Hid (orb (A1) 4 (n != 0) < 65536) := HL.out _ _ _ HB1.out (by decide)
  obtain ⟨A2, HA2⟩ : ∃ A, Hid (orb (A1) 4 (n != 0) = A) := ⟨_, rfl⟩
  rw [HA2.out] at HB2 ⊢
  go_wp2_with fail
  have H3 : A2 < 65536 := HB2.out
  with_reducible refine (add_any (w.alloc (.cells (cmC k i s z n q a len cap t l c b e u m o) 61)) (w.heap.size + 1) (A2) 8 (q) ((A2 : Int)) 8 (by simp) H3 (by decide) rfl rfl).mono ?_
  rintro r w' ⟨rfl, rfl⟩
  clear H3
  have HB3 : Hid (orb (A2) 8 (q) < 65536) := HL.out _ _ _ HB2.out (by decide)
  obtain ⟨A3, HA3⟩ : ∃ A, Hid (orb (A2) 8 (q) = A) := ⟨_, rfl⟩
  rw [HA3.out] at HB3 ⊢
  go_wp2_with fail
  have H4 : A3 < 65536 := HB3.out
  with_reducible refine (add_any (w.alloc (.cells (cmC k i s z n q a len cap t l c b e u m o) 61)) (w.heap.size + 1) (A3) 16 ((len : Int) != 0) ((A3 : Int)) 16 (by simp) H4 (by decide) rfl rfl).mono ?_
  rintro r w' ⟨rfl, rfl⟩
  clear H4
  have HB4 : Hid (orb (A3) 16 ((len : Int) != 0) < 65536) := HL.out _ _ _ HB3.out (by decide)
  obtain ⟨A4, HA4⟩ : ∃ A, Hid (orb (A3) 16 ((len : Int) != 0) = A) := ⟨_, rfl⟩
  rw [HA4.out] at HB4 ⊢
  go_wp2_with fail
  have H5 : A4 < 65536 := HB4.out
  with_reducible refine (add_any (w.alloc (.cells (cmC k i s z n q a len cap t l c b e u m o) 61)) (w.heap.size + 1) (A4) 32 (t) ((A4 : Int)) 32 (by simp) H5 (by decide) rfl rfl).mono ?_
  rintro r w' ⟨rfl, rfl⟩
  clear H5
  have HB5 : Hid (orb (A4) 32 (t) < 65536) := HL.out _ _ _ HB4.out (by decide)
  obtain ⟨A5, HA5⟩ : ∃ A, Hid (orb (A4) 32 (t) = A) := ⟨_, rfl⟩
  rw [HA5.out] at HB5 ⊢
  go_wp2_with fail
  have H6 : A5 < 65536 := HB5.out
  with_reducible refine (add_any (w.alloc (.cells (cmC k i s z n q a len cap t l c b e u m o) 61)) (w.heap.size + 1) (A5) 64 (l) ((A5 : Int)) 64 (by simp) H6 (by decide) rfl rfl).mono ?_
  rintro r w' ⟨rfl, rfl⟩
  clear H6
  have HB6 : Hid (orb (A5) 64 (l) < 65536) := HL.out _ _ _ HB5.out (by decide)
  obtain ⟨A6, HA6⟩ : ∃ A, Hid (orb (A5) 64 (l) = A) := ⟨_, rfl⟩
  rw [HA6.out] at HB6 ⊢
  go_wp2_with fail
  have H7 : A6 < 65536 := HB6.out
  with_reducible refine (add_any (w.alloc (.cells (cmC k i s z n q a len cap t l c b e u m o) 61)) (w.heap.size + 1) (A6) 128 (c) ((A6 : Int)) 128 (by simp) H7 (by decide) rfl rfl).mono ?_
  rintro r w' ⟨rfl, rfl⟩
  clear H7
  have HB7 : Hid (orb (A6) 128 (c) < 65536) := HL.out _ _ _ HB6.out (by decide)
  obtain ⟨A7, HA7⟩ : ∃ A, Hid (orb (A6) 128 (c) = A) := ⟨_, rfl⟩
  rw [HA7.out] at HB7 ⊢
  go_wp2_with fail
  have H8 : A7 < 65536 := HB7.out
  with_reducible refine (add_any (w.alloc (.cells (cmC k i s z n q a len cap t l c b e u m o) 61)) (w.heap.size + 1) (A7) 256 (b != 0) ((A7 : Int)) 256 (by simp) H8 (by decide) rfl rfl).mono ?_
  rintro r w' ⟨rfl, rfl⟩
  clear H8
  have HB8 : Hid (orb (A7) 256 (b != 0) < 65536) := HL.out _ _ _ HB7.out (by decide)
  obtain ⟨A8, HA8⟩ : ∃ A, Hid (orb (A7) 256 (b != 0) = A) := ⟨_, rfl⟩
  rw [HA8.out] at HB8 ⊢
  go_wp2_with fail
  have H9 : A8 < 65536 := HB8.out
  with_reducible refine (add_any (w.alloc (.cells (cmC k i s z n q a len cap t l c b e u m o) 61)) (w.heap.size + 1) (A8) 512 (e != 0) ((A8 : Int)) 512 (by simp) H9 (by decide) rfl rfl).mono ?_
  rintro r w' ⟨rfl, rfl⟩
  clear H9
  have HB9 : Hid (orb (A8) 512 (e != 0) < 65536) := HL.out _ _ _ HB8.out (by decide)
  obtain ⟨A9, HA9⟩ : ∃ A, Hid (orb (A8) 512 (e != 0) = A) := ⟨_, rfl⟩
  rw [HA9.out] at HB9 ⊢
  go_wp2_with fail
  have H10 : A9 < 65536 := HB9.out
  with_reducible refine (add_any (w.alloc (.cells (cmC k i s z n q a len cap t l c b e u m o) 61)) (w.heap.size + 1) (A9) 1024 (u != 0) ((A9 : Int)) 1024 (by simp) H10 (by decide) rfl rfl).mono ?_
  rintro r w' ⟨rfl, rfl⟩
  clear H10
  have HB10 : Hid (orb (A9) 1024 (u != 0) < 65536) := HL.out _ _ _ HB9.out (by decide)
  obtain ⟨A10, HA10⟩ : ∃ A, Hid (orb (A9) 1024 (u != 0) = A) := ⟨_, rfl⟩
  rw [HA10.out] at HB10 ⊢
  go_wp2_with fail
  have H11 : A10 < 65536 := HB10.out
  with_reducible refine (add_any (w.alloc (.cells (cmC k i s z n q a len cap t l c b e u m o) 61)) (w.heap.size + 1) (A10) 2048 (m != 0) ((A10 : Int)) 2048 (by simp) H11 (by decide) rfl rfl).mono ?_
  rintro r w' ⟨rfl, rfl⟩
  clear H11
  have HB11 : Hid (orb (A10) 2048 (m != 0) < 65536) := HL.out _ _ _ HB10.out (by decide)
  obtain ⟨A11, HA11⟩ : ∃ A, Hid (orb (A10) 2048 (m != 0) = A) := ⟨_, rfl⟩
  rw [HA11.out] at HB11 ⊢
  go_wp2_with fail
  have H12 : A11 < 65536 := HB11.out
  with_reducible refine (add_any (w.alloc (.cells (cmC k i s z n q a len cap t l c b e u m o) 61)) (w.heap.size + 1) (A11) 4096 (o != 0) ((A11 : Int)) 4096 (by simp) H12 (by decide) rfl rfl).mono ?_
  rintro r w' ⟨rfl, rfl⟩
  clear H12
  have HB12 : Hid (orb (A11) 4096 (o != 0) < 65536) := HL.out _ _ _ HB11.out (by decide)
  obtain ⟨A12, HA12⟩ : ∃ A, Hid (orb (A11) 4096 (o != 0) = A) := ⟨_, rfl⟩
  rw [HA12.out] at HB12 ⊢
  go_wp2_with fail
  have HE : Hid (((flN i s z n q len t l c b e u m o : Nat) : Int) = (A12 : Int)) := by
    show _ = _
    unfold flN
    rw [HA0.out, HA1.out, HA2.out, HA3.out, HA4.out, HA5.out, HA6.out, HA7.out, HA8.out, HA9.out, HA10.out, HA11.out, HA12.out]
  go_ret
  exact ⟨ret_int HE.out.symm, _, _, rfl⟩
#print axioms fieldsOf_any

theorem flN_lt (i s : Int) (z : Bool) (n : Int) (q : Bool) (len : Nat) (t l c : Bool) (b e u m o : Int) : flN i s z n q len t l c b e u m o < 65536 := by
  unfold flN
  repeat (first | (refine orb_lt _ _ _ ?_ (by decide)) | decide)

/-- How a giving up ends. -/
def endB : Bool → Ending
  | true => .returned (.tuple #[])
  | false => .panicked bad

set_option linter.unusedSimpArgs false in
set_option maxHeartbeats 4000000 in
set_option maxRecDepth 100000 in
theorem only_any (k i s : Int) (z : Bool) (n : Int) (q : Bool) (a : Option Addr) (len cap : Nat) (t l c : Bool) (b e u m o : Int) (has : Nat) (hh : has < 65536) (has' : Int) (he : has' = (has : Int)) (w : World) :
    Calls Tryz.prog 98 #[cmV k i s z n q a len cap t l c b e u m o, .int .u16 has'] w fun r w' => r = endB (onlyN i s z n q len t l c b e u m o has) ∧ ∃ o1 o2 o3, w' = ((w.alloc o1).alloc o2).alloc o3 := by
  subst he
  have hl := flN_lt i s z n q len t l c b e u m o
  have hf := fun w => fieldsOf_any k i s z n q a len cap t l c b e u m o w
  obtain ⟨F, HF⟩ : ∃ F, Hid (flN i s z n q len t l c b e u m o = F) := ⟨_, rfl⟩
  rw [HF.out] at hf hl
  have ha : bits .andNot .u16 (F : Int) (has : Int) = ((F &&& (65535 - has) : Nat) : Int) := u16_andNot_nat F has hl hh
  obtain ⟨r, hr⟩ : ∃ r, onlyN i s z n q len t l c b e u m o has = r := ⟨_, rfl⟩
  have hr2 : (F &&& (65535 - has) == 0) = r := by rw [← hr, ← HF.out]; rfl
  rw [hr]
  obtain ⟨G, HG⟩ : ∃ G : Nat, Hid (F &&& (65535 - has) = G) := ⟨_, rfl⟩
  rw [HG.out] at ha hr2
  have hq : (((G : Nat) : Int) == 0) = r := by rw [← hr2, Bool.eq_iff_iff]; simp
  clear hr hr2 hl HF HG hh
  cases r
  · have hq' : ¬ G = 0 := by simpa using hq
    go_enter Tryz.func98, Tryz.ntmps98
    go_wp2_with fail
    with_reducible refine (hf _).mono ?_
    rintro r w1 ⟨rfl, o1, o2, rfl⟩
    clear hf
    go_wp2_with fail
    with_reducible refine (must_false _).mono ?_
    rintro r w1 ⟨rfl, rfl⟩
    go_wp2_with fail
    exact ⟨rfl, rfl, _, _, _, rfl⟩
  · have hq' : G = 0 := by simpa using hq
    subst hq'
    go_enter Tryz.func98, Tryz.ntmps98
    go_wp2_with fail
    with_reducible refine (hf _).mono ?_
    rintro r w1 ⟨rfl, o1, o2, rfl⟩
    clear hf
    go_wp2_with fail
    with_reducible refine (must_true _).mono ?_
    rintro r w1 ⟨rfl, rfl⟩
    go_wp2_with fail
    go_end0
    exact ⟨rfl, _, _, _, rfl⟩
theorem only_yes (k i s : Int) (z : Bool) (n : Int) (q : Bool) (a : Option Addr) (len cap : Nat) (t l c : Bool) (b e u m o : Int) (has : Nat) (hh : has < 65536) (has' : Int) (he : has' = (has : Int)) (h : onlyN i s z n q len t l c b e u m o has = true) (w : World) :
    Calls Tryz.prog 98 #[cmV k i s z n q a len cap t l c b e u m o, .int .u16 has'] w fun r w' => r = .returned (.tuple #[]) ∧ ∃ o1 o2 o3, w' = ((w.alloc o1).alloc o2).alloc o3 := by
  have := only_any k i s z n q a len cap t l c b e u m o has hh has' he w
  rw [h] at this
  exact this
theorem only_no (k i s : Int) (z : Bool) (n : Int) (q : Bool) (a : Option Addr) (len cap : Nat) (t l c : Bool) (b e u m o : Int) (has : Nat) (hh : has < 65536) (has' : Int) (he : has' = (has : Int)) (h : onlyN i s z n q len t l c b e u m o has = false) (w : World) :
    Calls Tryz.prog 98 #[cmV k i s z n q a len cap t l c b e u m o, .int .u16 has'] w fun r w' => r = .panicked bad ∧ ∃ o1 o2 o3, w' = ((w.alloc o1).alloc o2).alloc o3 := by
  have := only_any k i s z n q a len cap t l c b e u m o has hh has' he w
  rw [h] at this
  exact this
#print axioms only_any
end Go.Proofs.YtimnpdegoehblaaGreatDoor
