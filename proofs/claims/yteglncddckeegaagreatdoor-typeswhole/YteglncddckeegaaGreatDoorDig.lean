/-
  The walks of the document's Digits and Signed: a number's decimal digits.
-/
import Derived.Test.YteglncddckeegaaGreatDoorFl1
import Derived.Test.YteglncddckeegaaGreatDoorLent
import Derived.Deep.RegionWith
namespace Go.Proofs.YteglncddckeegaaGreatDoor
open Pl Go.RowKit

theorem one_str (W : World) (c : Int) (h : 0 ≤ c ∧ c < 256) : (convert 23 9 (.slice (some ⟨W.heap.size, 0, none⟩) 1 1)).run Tryz.prog (W.alloc (.cells #[.int .u8 c] 5)) = .ok (.string (str [UInt8.ofNat c.toNat])) (W.alloc (.cells #[.int .u8 c] 5)) :=
  (row_lit W #[.int .u8 c] 5 [c] 1 rfl (fun n hn => by simp at hn; omega) rfl).str' 1

theorem dec_small (u : Nat) (h : u < 10) : Lib.decDigits u = [UInt8.ofNat (48 + u)] := by rw [Lib.decDigits, dif_pos h]
theorem dec_step (u : Nat) (h : ¬ u < 10) : Lib.decDigits u = Lib.decDigits (u / 10) ++ [UInt8.ofNat (48 + u % 10)] := by rw [Lib.decDigits, dif_neg h]

set_option maxHeartbeats 1000000 in
set_option maxRecDepth 100000 in
theorem digits_any (u : Nat) : u < 18446744073709551616 → ∀ w : World, Calls Tryz.prog 10 #[.int .u64 u] w fun e w' => e = .returned (.string (str (Lib.decDigits u))) ∧ Below w.heap.size w w' := by
  induction u using Nat.strongRecOn with
  | _ u ih =>
    intro hu w
    by_cases h : u < 10
    · have h' : (u : Int) < 10 := by omega
      have hst := one_str w (48 + (u : Int)) (by omega)
      obtain ⟨s2, HS2⟩ : ∃ s, Hid (str [UInt8.ofNat (48 + (u : Int)).toNat] = s) := ⟨_, rfl⟩
      rw [HS2.out] at hst
      have H : Hid (str (Lib.decDigits u) = s2) := by show _ = _; rw [dec_small u h, ← HS2.out]; congr 2
      clear ih
      go_enter Tryz.func10, Tryz.ntmps10
      go_wp2_with fail
      go_ret
      refine ⟨ret_str ?_, Below.al (Below.refl _ _) _⟩
      exact H.out.symm
    · have h' : ¬ (u : Int) < 10 := by omega
      have IH := ih (u / 10) (by omega) (by omega)
      have hl := dec_len (u / 10) (by omega)
      obtain ⟨s1, HS⟩ : ∃ s, Hid (str (Lib.decDigits (u / 10)) = s) := ⟨_, rfl⟩
      rw [HS.out] at IH
      change (str (Lib.decDigits (u / 10))).size ≤ 20 at hl
      rw [HS.out] at hl
      have H : Hid (s1 ++ str [UInt8.ofNat (48 + u % 10)] = str (Lib.decDigits u)) := by show _ = _; rw [← HS.out, str_append, dec_step u h]
      obtain ⟨s2, HS2⟩ : ∃ s, Hid (str [UInt8.ofNat (48 + u % 10)] = s) := ⟨_, rfl⟩
      have hl2 : s2.size = 1 := by rw [← HS2.out]; rfl
      have ad := add_run s1 s2 (by omega)
      have hst : Hid (∀ W : World, (convert 23 9 (.slice (some ⟨W.heap.size, 0, none⟩) 1 1)).run Tryz.prog (W.alloc (.cells #[.int .u8 (48 + ((u : Int) % 10))] 5)) = .ok (.string s2) (W.alloc (.cells #[.int .u8 (48 + ((u : Int) % 10))] 5))) := fun W => by
        rw [← HS2.out, one_str W (48 + ((u : Int) % 10)) (by omega)]
        congr 4
      have hst2 : Hid (∀ (W x : World) (B : Nat), W.heap.size < B → Below B (W.alloc (.cells #[.int .u8 (48 + ((u : Int) % 10))] 5)) x → (convert 23 9 (.slice (some ⟨W.heap.size, 0, none⟩) 1 1)).run Tryz.prog x = .ok (.string s2) x) := fun W x B hB hb => by
        have r0 := row_lit W #[.int .u8 (48 + ((u : Int) % 10))] 5 [48 + ((u : Int) % 10)] 1 rfl (fun n hn => by simp at hn; omega) rfl
        have r : Row x (some ⟨W.heap.size, 0, none⟩) 1 [48 + ((u : Int) % 10)] := ⟨r0.size, r0.oct, fun hp => by
          obtain ⟨b, off, e, hc⟩ := r0.at_ hp
          cases e
          exact ⟨_, 0, rfl, fun i hi => by rw [hb.cell (by exact hB)]; exact hc i hi⟩⟩
        rw [r.str' 1, ← HS2.out]
        show Result.ok (Value.string (str [UInt8.ofNat (48 + (u : Int) % 10).toNat])) x = _
        congr 4
      have IH' : Hid (∀ w : World, Calls Tryz.prog 10 #[.int .u64 ((u : Int) / 10)] w fun e w' => e = .returned (.string s1) ∧ Below w.heap.size w w') := by
        rw [show (u : Int) / 10 = ((u / 10 : Nat) : Int) from by omega]
        exact IH
      have h1 : (convert 23 9 (.slice (some ⟨w.heap.size, 0, none⟩) 1 1)).run Tryz.prog (w.alloc (.cells #[.int .u8 (48 + ((u : Int) % 10))] 5)).drew = .ok (.string s2) (w.alloc (.cells #[.int .u8 (48 + ((u : Int) % 10))] 5)).drew := hst.out w.drew
      have hw1 : IntKind.u64.wrap ((u : Int) / 10) = (u : Int) / 10 := u64_wrap_id _ (by omega) (by omega)
      have hw2 : (u : Int).tmod 10 = (u : Int) % 10 := Int.tmod_eq_emod_of_nonneg (by omega)
      have hw3 : IntKind.u8.wrap ((u : Int) % 10) = (u : Int) % 10 := by rw [IntKind.wrap_u8]; omega
      have hw4 : IntKind.u8.wrap (48 + (u : Int) % 10) = 48 + (u : Int) % 10 := by rw [IntKind.wrap_u8]; omega
      clear IH
      rw [HS2.out] at H
      clear ih hl hl2
      go_enter Tryz.func10, Tryz.ntmps10
      go_wp2_with fail
      go_region_with (go_at_call 10; refine (IH'.out _).mono ?_; rintro e x ⟨rfl, hb⟩; first | (have h2 : (convert 23 9 (.slice (some ⟨w.heap.size, 0, none⟩) 1 1)).run Tryz.prog x = .ok (.string s2) x := hst2.out w.drew x _ (by simp) hb) | (have h2 := hst.out x))
      all_goals go_wp2_with fail
      all_goals go_ret
      all_goals refine ⟨ret_str H.out, ?_⟩
      all_goals first | exact (Below.drew (Below.refl _ _)).trans (Below.al hb _) | exact (Below.al (Below.drew (Below.refl _ _)) _).trans (hb.mono (by simp))

theorem signed_any (n : Int) (h0 : -9223372036854775808 ≤ n) (h1 : n ≤ 9223372036854775807) (w : World) :
    Calls Tryz.prog 11 #[.int .i64 n] w fun e w' => e = .returned (.string (str (Lib.itoa n))) ∧ Below w.heap.size w w' := by
  rcases Int.lt_or_le n 0 with h | h
  · obtain ⟨u, rfl⟩ : ∃ u : Nat, n = -(u : Int) := ⟨n.natAbs, by omega⟩
    have hw : IntKind.u64.wrap (wrap64 (0 - -(u : Int))) = (u : Int) := by
      simp only [wrap64, IntKind.wrap_u64]; omega
    have hw' : IntKind.u64.wrap (wrap64 (u : Int)) = (u : Int) := by
      simp only [wrap64, IntKind.wrap_u64]; omega
    have hd := digits_any u (by omega)
    have hl := dec_len u (by omega)
    obtain ⟨s1, HS⟩ : ∃ s, Hid (str (Lib.decDigits u) = s) := ⟨_, rfl⟩
    rw [HS.out] at hd
    change (str (Lib.decDigits u)).size ≤ 20 at hl
    rw [HS.out] at hl
    have HD : Hid (∀ w : World, Calls Tryz.prog 10 #[.int .u64 u] w fun e w' => e = .returned (.string s1) ∧ Below w.heap.size w w') := hd
    have ad := add_run ⟨#[45]⟩ s1 (by have : (⟨#[45]⟩ : ByteArray).size = 1 := rfl; omega)
    have H : Hid (⟨#[45]⟩ ++ s1 = str (Lib.itoa (-(u : Int)))) := by
      show _ = _
      rw [Lib.itoa_neg u (by omega), ← HS.out, show (⟨#[45]⟩ : ByteArray) = str [45] from rfl, str_append]; rfl
    have hn : -(u : Int) < 0 := h
    clear hd hl
    go_enter Tryz.func11, Tryz.ntmps11
    go_wp2_with fail
    refine (HD.out _).mono ?_
    rintro e w1 ⟨rfl, hb⟩
    go_wp2_with fail
    go_ret
    exact ⟨ret_str H.out, hb⟩
  · obtain ⟨u, rfl⟩ : ∃ u : Nat, n = (u : Int) := ⟨n.natAbs, by omega⟩
    have hn : ¬ (u : Int) < 0 := by omega
    have hw : IntKind.u64.wrap (u : Int) = (u : Int) := u64_wrap_id _ (by omega) (by omega)
    have hd := digits_any u (by omega)
    have HD : Hid (∀ w : World, Calls Tryz.prog 10 #[.int .u64 u] w fun e w' => e = .returned (.string (str (Lib.itoa (u : Int)))) ∧ Below w.heap.size w w') := by
      rw [Lib.itoa_nonneg]; exact hd
    clear hd
    go_enter Tryz.func11, Tryz.ntmps11
    go_wp2_with fail
    refine (HD.out _).mono ?_
    rintro e w1 ⟨rfl, hb⟩
    go_wp2_with fail
    go_ret
    exact ⟨rfl, hb⟩
#print axioms digits_any
#print axioms signed_any
end Go.Proofs.YteglncddckeegaaGreatDoor
