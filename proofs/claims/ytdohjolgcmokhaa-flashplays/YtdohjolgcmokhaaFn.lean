/-
  The walk of works.
-/
import Derived.Test.YtdohjolgcmokhaaFl
namespace Go.Proofs.Ytdohjolgcmokhaa
open Go.RowKit

theorem FS.write_free {s : FS} {n k d : Nat} (ho : s.of = false) (ha : s.ar = false) (hk : k < n) (hd : d < 256) {b0 b1 b2 b3 q0 q1 q2 q3 : Int} (h0 : s.cs.getD (k * 1024 + d * 4) 0 = q0) (h1 : s.cs.getD (k * 1024 + d * 4 + 1) 0 = q1) (h2 : s.cs.getD (k * 1024 + d * 4 + 2) 0 = q2) (h3 : s.cs.getD (k * 1024 + d * 4 + 3) 0 = q3) (hf : fallB q0 q1 q2 q3 b0 b1 b2 b3 = true) :
    s.write n k d b0 b1 b2 b3 = (0, { s with cs := put s.cs (k * 1024 + d * 4) [b0, b1, b2, b3], st := s.st + 1 }) := by
  unfold FS.write
  rw [if_neg (by rw [refE_ok ho n k d (by omega) (by omega) (by omega) (by omega)]; decide)]
  simp only [Int.toNat_natCast]
  rw [h0, h1, h2, h3, if_pos hf, FS.step_free ha]
theorem FS.write_not {s : FS} {n k d : Nat} (ho : s.of = false) (hk : k < n) (hd : d < 256) {b0 b1 b2 b3 q0 q1 q2 q3 : Int} (h0 : s.cs.getD (k * 1024 + d * 4) 0 = q0) (h1 : s.cs.getD (k * 1024 + d * 4 + 1) 0 = q1) (h2 : s.cs.getD (k * 1024 + d * 4 + 2) 0 = q2) (h3 : s.cs.getD (k * 1024 + d * 4 + 3) 0 = q3) (hf : fallB q0 q1 q2 q3 b0 b1 b2 b3 = false) :
    s.write n k d b0 b1 b2 b3 = (51, s) := by
  unfold FS.write
  rw [if_neg (by rw [refE_ok ho n k d (by omega) (by omega) (by omega) (by omega)]; decide)]
  simp only [Int.toNat_natCast]
  rw [h0, h1, h2, h3, if_neg (by rw [hf]; decide)]
theorem newS_at (n j : Nat) (h : j < 1024 * n) : (newS n).cs.getD j 0 = 255 := by
  show (List.replicate (1024 * n) (255 : Int)).getD j 0 = 255
  rw [List.getD_eq_getElem?_getD, List.getElem?_replicate, if_pos h]; rfl
theorem newS_len (n : Nat) : (newS n).cs.length = 1024 * n := List.length_replicate
theorem put4_at (l : List Int) (o : Nat) (a b c d : Int) (h : o + 4 ≤ l.length) : (put l o [a, b, c, d]).getD o 0 = a ∧ (put l o [a, b, c, d]).getD (o + 1) 0 = b ∧ (put l o [a, b, c, d]).getD (o + 2) 0 = c ∧ (put l o [a, b, c, d]).getD (o + 3) 0 = d := by
  refine ⟨?_, ?_, ?_, ?_⟩ <;> rw [put_getD _ _ _ _ (by simpa using h), if_pos (by simp)]
  · rw [Nat.sub_self]; rfl
  · rw [Nat.add_sub_cancel_left]; rfl
  · rw [Nat.add_sub_cancel_left]; rfl
  · rw [Nat.add_sub_cancel_left]; rfl

/-- The examples' states. -/
def eS1 : FS := ⟨put (newS 2).cs (0 * 1024 + 1 * 4) [1, 2, 3, 4], 1, false, 0, false⟩
def eS2 : FS := ⟨put eS1.cs (0 * 1024 + 1 * 4) [1, 0, 3, 4], 2, false, 0, false⟩
theorem eW1 : (newS 2).write 2 0 1 1 2 3 4 = (0, eS1) := FS.write_free (s := newS 2) (n := 2) (k := 0) (d := 1) rfl rfl (by decide) (by decide) (newS_at 2 _ (by decide)) (newS_at 2 _ (by decide)) (newS_at 2 _ (by decide)) (newS_at 2 _ (by decide)) (by decide)
theorem eL1 : eS1.cs.length = 2048 := by show (put _ _ _).length = _; rw [put_len _ _ _ (by rw [newS_len]; decide), newS_len]
theorem eL2 : eS2.cs.length = 2048 := by show (put _ _ _).length = _; rw [put_len _ _ _ (by rw [eL1]; decide), eL1]
theorem eA1 : (put (newS 2).cs (0 * 1024 + 1 * 4) [1, 2, 3, 4]).getD (0 * 1024 + 1 * 4) 0 = 1 ∧ (put (newS 2).cs (0 * 1024 + 1 * 4) [1, 2, 3, 4]).getD (0 * 1024 + 1 * 4 + 1) 0 = 2 ∧ (put (newS 2).cs (0 * 1024 + 1 * 4) [1, 2, 3, 4]).getD (0 * 1024 + 1 * 4 + 2) 0 = 3 ∧ (put (newS 2).cs (0 * 1024 + 1 * 4) [1, 2, 3, 4]).getD (0 * 1024 + 1 * 4 + 3) 0 = 4 := put4_at (newS 2).cs (0 * 1024 + 1 * 4) 1 2 3 4 (by rw [newS_len]; decide)
theorem eA2 : (put eS1.cs (0 * 1024 + 1 * 4) [1, 0, 3, 4]).getD (0 * 1024 + 1 * 4) 0 = 1 ∧ (put eS1.cs (0 * 1024 + 1 * 4) [1, 0, 3, 4]).getD (0 * 1024 + 1 * 4 + 1) 0 = 0 ∧ (put eS1.cs (0 * 1024 + 1 * 4) [1, 0, 3, 4]).getD (0 * 1024 + 1 * 4 + 2) 0 = 3 ∧ (put eS1.cs (0 * 1024 + 1 * 4) [1, 0, 3, 4]).getD (0 * 1024 + 1 * 4 + 3) 0 = 4 := put4_at eS1.cs (0 * 1024 + 1 * 4) 1 0 3 4 (by rw [eL1]; decide)
theorem eW2 : eS1.write 2 0 1 1 0 3 4 = (0, eS2) := FS.write_free (s := eS1) (n := 2) (k := 0) (d := 1) rfl rfl (by decide) (by decide) eA1.1 eA1.2.1 eA1.2.2.1 eA1.2.2.2 (by decide)
theorem eW3 : eS2.write 2 0 1 1 2 3 4 = (51, eS2) := FS.write_not (s := eS2) (n := 2) (k := 0) (d := 1) rfl (by decide) (by decide) eA2.1 eA2.2.1 eA2.2.2.1 eA2.2.2.2 (by decide)
theorem eWd : wdC eS2.cs (0 * 1024 + 1 * 4) = w4 1 0 3 4 := by
  unfold wdC
  have h := eA2
  rw [show eS2.cs = put eS1.cs (0 * 1024 + 1 * 4) [1, 0, 3, 4] from rfl, h.1, h.2.1, h.2.2.1, h.2.2.2]

set_option linter.unusedSimpArgs false in
set_option maxHeartbeats 4000000 in
set_option maxRecDepth 100000 in
theorem works_any (w : World) :
    Calls Try.prog 9 #[] w fun e w' => e = .returned (.bool true) ∧ Below w.heap.size w w' := by
  have NW : ∀ w : World, Calls Try.prog 10 #[.int .i64 2] w _ := fun w => new_ok 2 (by decide) (by decide) w
  have C1 : Hid (∀ (w : World) (p B : Nat), IsS w p B 2 2 (newS 2) → Calls Try.prog 21 #[.pointer (some ⟨p, 0, none⟩), .int .i64 0, .int .i64 1, .agg #[.int .u8 1, .int .u8 2, .int .u8 3, .int .u8 4]] w fun e w' => e = .returned (.int .i64 0) ∧ IsS w' p B 2 2 eS1 ∧ Kp [p, B] w w') := fun w p B h => by
    have := write_any h ⟨by decide, by decide, by decide, by decide⟩ 0 1 1 2 3 4 (fun n hn => by simp at hn; omega)
    rw [eW1] at this; exact this
  have C2 : Hid (∀ (w : World) (p B : Nat), IsS w p B 2 2 eS1 → Calls Try.prog 21 #[.pointer (some ⟨p, 0, none⟩), .int .i64 0, .int .i64 1, .agg #[.int .u8 1, .int .u8 0, .int .u8 3, .int .u8 4]] w fun e w' => e = .returned (.int .i64 0) ∧ IsS w' p B 2 2 eS2 ∧ Kp [p, B] w w') := fun w p B h => by
    have := write_any h ⟨by decide, by decide, by decide, by decide⟩ 0 1 1 0 3 4 (fun n hn => by simp at hn; omega)
    rw [eW2] at this; exact this
  have C3 : Hid (∀ (w : World) (p B : Nat), IsS w p B 2 2 eS2 → Calls Try.prog 21 #[.pointer (some ⟨p, 0, none⟩), .int .i64 0, .int .i64 1, .agg #[.int .u8 1, .int .u8 2, .int .u8 3, .int .u8 4]] w fun e w' => e = .returned (.int .i64 51) ∧ IsS w' p B 2 2 eS2 ∧ Kp [p, B] w w') := fun w p B h => by
    have := write_any h ⟨by decide, by decide, by decide, by decide⟩ 0 1 1 2 3 4 (fun n hn => by simp at hn; omega)
    rw [eW3] at this; exact this
  have C4 : Hid (∀ (w : World) (p B : Nat), IsS w p B 2 2 eS2 → Calls Try.prog 20 #[.pointer (some ⟨p, 0, none⟩), .int .i64 0, .int .i64 1] w fun e w' => e = .returned (.tuple #[.agg (w4 1 0 3 4), .int .i64 0]) ∧ Below w.heap.size w w') := fun w p B h => by
    have := word_ok h 0 1 (by decide) (by decide) rfl
    rw [eWd] at this; exact this
  have C5 : Hid (∀ (w : World) (p B : Nat), IsS w p B 2 2 eS2 → Calls Try.prog 23 #[.pointer (some ⟨p, 0, none⟩)] w fun e w' => e = .returned (.int .i64 2) ∧ w' = w) := fun w p B h => steps_any h
  have C6 : Hid (∀ (w : World) (p B : Nat), IsS w p B 2 2 eS2 → Calls Try.prog 27 #[.pointer (some ⟨p, 0, none⟩)] w fun e w' => e = .returned (.int .i64 2) ∧ w' = w) := fun w p B h => sectors_any h
  have EQ : ∀ w, (binOp .eql 32 (.agg #[.int .u8 1, .int .u8 0, .int .u8 3, .int .u8 4]) (.agg #[.int .u8 1, .int .u8 0, .int .u8 3, .int .u8 4])).run Try.prog w = .ok (.bool true) w := fun w => eql4 w 1 0 3 4 1 0 3 4
  go_enter Try.func9, Try.ntmps9
  go_wp2_with fail
  refine (NW _).mono ?_
  rintro e w1 ⟨⟨p, B, rfl, hp, hB, hs1⟩, hb1⟩
  have S1 : Hid (IsS w1 p B 2 2 (newS 2)) := hs1
  clear NW hs1
  go_wp2_with fail
  refine (C1.out _ p B S1.out).mono ?_
  rintro e w2 ⟨rfl, hs2, k2⟩
  have S2 : Hid (IsS w2 p B 2 2 eS1) := hs2
  clear hs2
  go_wp2_with fail
  refine (C2.out _ p B S2.out).mono ?_
  rintro e w3 ⟨rfl, hs3, k3⟩
  have S3 : Hid (IsS w3 p B 2 2 eS2) := hs3
  clear hs3
  go_wp2_with fail
  refine (C3.out _ p B S3.out).mono ?_
  rintro e w4' ⟨rfl, hs4, k4⟩
  have S4 : Hid (IsS w4' p B 2 2 eS2) := hs4
  clear hs4
  go_wp2_with fail
  refine (C4.out _ p B S4.out).mono ?_
  rintro e w5 ⟨rfl, b5⟩
  have hb5 : Hid (Below w.heap.size w w5) := by
    have c1 : Kp [] w w2 := (Kp.of hb1).fresh k2 (by intro i hi; simp at hi; rcases hi with rfl | rfl <;> exact .inr (by assumption))
    have c2 : Kp [] w w3 := c1.fresh k3 (by intro i hi; simp at hi; rcases hi with rfl | rfl <;> exact .inr (by assumption))
    have c3 : Kp [] w w4' := c2.fresh k4 (by intro i hi; simp at hi; rcases hi with rfl | rfl <;> exact .inr (by assumption))
    exact Below.andThen c3.bel b5
  have S5 : Hid (∀ o, IsS (w5.alloc o) p B 2 2 eS2) := fun o => (S4.out.next b5).next (Below.al (Below.refl _ _) o)
  clear S1 S2 S3 S4 C1 C2 C3 C4 k2 k3 k4 b5 hb1
  go_wp2_with fail
  refine (C5.out _ p B (S5.out _)).mono ?_
  rintro e w6 ⟨rfl, rfl⟩
  go_wp2_with fail
  refine (C6.out _ p B (S5.out _)).mono ?_
  rintro e w7 ⟨rfl, rfl⟩
  go_wp2_with fail
  go_ret
  exact ⟨rfl, Below.al hb5.out _⟩
#print axioms works_any
end Go.Proofs.Ytdohjolgcmokhaa
