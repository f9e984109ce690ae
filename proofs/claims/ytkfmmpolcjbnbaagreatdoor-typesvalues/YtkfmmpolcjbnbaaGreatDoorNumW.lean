/-
  The walks of number (the program's and the document's): bytes, at most 8, as a number.
  The walks of checkBytes and of the document's plain: whether bytes are a value of a type.
-/
import Derived.Test.YtkfmmpolcjbnbaaGreatDoorPlain
namespace Go.Proofs.YtkfmmpolcjbnbaaGreatDoor
open Pl Go.RowKit

/-- A slice of bytes in memory, its bytes as numbers. -/
structure Row (w : World) (a : Option Addr) (len : Nat) (zs : List Int) : Prop where
  size : zs.length = len
  oct : Oct zs
  at_ : 0 < len → ∃ b off, a = some ⟨b, off, none⟩ ∧ ∀ i, i < len → w.cell? ⟨b, off + i, none⟩ = some (.int .u8 (zs.getD i 0))

set_option maxHeartbeats 400000 in
theorem number_any (a : Option Addr) (len cap : Nat) (zs : List Int) (w : World) (hr : Row w a len zs) (h8 : len ≤ 8) :
    Calls Tryz.prog 23 #[.slice a len cap] w fun e w' => e = .returned (.int .u64 (num zs)) ∧ w' = w := by
  obtain ⟨hs, ho, hat⟩ := hr
  go_enter Tryz.func23, Tryz.ntmps23
  go_wp2
  go_loop [3, 8] (fun n i => ∃ k : Nat, k ≤ len ∧ i = .int .i64 k ∧ n = .int .u64 (num (zs.take k))) (fun _ i => len - (intOf i).toNat)
  case atStart => exact ⟨0, Nat.zero_le _, rfl, rfl⟩
  case round =>
    obtain ⟨k, hk, rfl, rfl⟩ := hrel
    by_cases hlt : k < len
    · obtain ⟨b, off, rfl, hc⟩ := hat (by omega)
      have hck := hc k hlt
      clear hc hat
      go_wp2
      exact ⟨⟨k + 1, by omega, by go_num, congrArg (Value.int .u64) (or_step_walk zs ho k (by omega) (by omega))⟩, by simp [intOf]; omega⟩
    · go_wp2
      go_ret
      exact ⟨ret_int (by rw [List.take_of_length_le (by omega)]), rfl⟩

set_option maxHeartbeats 400000 in
theorem refNumber_any (a : Option Addr) (len cap : Nat) (zs : List Int) (w : World) (hr : Row w a len zs) (h8 : len ≤ 8) :
    Calls Tryz.prog 88 #[.slice a len cap] w fun e w' => e = .returned (.int .u64 (num zs)) ∧ w' = w := by
  obtain ⟨hs, ho, hat⟩ := hr
  go_enter Tryz.func88, Tryz.ntmps88
  go_wp2
  go_loop [3, 4] (fun n i => ∃ k : Nat, k ≤ len ∧ i = .int .i64 ((k : Int) - 1) ∧ n = .int .u64 (num (zs.drop k))) (fun _ i => (intOf i + 1).toNat)
  case atStart => exact ⟨len, Nat.le_refl _, rfl, by rw [List.drop_of_length_le (by omega)]; rfl⟩
  case round =>
    obtain ⟨k, hk, rfl, rfl⟩ := hrel
    by_cases hlt : 0 < k
    · obtain ⟨j, rfl⟩ : ∃ j, k = j + 1 := ⟨k - 1, by omega⟩
      obtain ⟨b, off, rfl, hc⟩ := hat (by omega)
      have hck := hc j (by omega)
      clear hc hat
      rw [show (((j + 1 : Nat) : Int) - 1) = (j : Int) from by omega]
      go_wp2
      have e : zs[j]?.getD 0 = zs[j] := by simp [show j < zs.length by omega]
      exact ⟨⟨j, by omega, rfl, congrArg (Value.int .u64) (by rw [e]; exact or_step_down_walk zs ho j (by omega) (by omega))⟩, by simp [intOf]⟩
    · obtain rfl : k = 0 := by omega
      go_wp2
      go_ret
      exact ⟨rfl, rfl⟩

theorem Row.nil {w : World} {a : Option Addr} {zs : List Int} (h : Row w a 0 zs) : zs = [] := List.eq_nil_of_length_eq_zero h.size

/-- What the first of its bytes are. -/
theorem Row.head {w : World} {a : Option Addr} {len : Nat} {zs : List Int} (h : Row w a len zs) (k : Nat) (hk : k ≤ len) : Row w a k (zs.take k) where
  size := by rw [List.length_take, h.size]; omega
  oct := h.oct.take k
  at_ := fun hp => by
    obtain ⟨b, off, e, hc⟩ := h.at_ (by omega)
    refine ⟨b, off, e, fun i hi => ?_⟩
    rw [hc i (by omega)]
    simp [List.getD_eq_getElem?_getD, hi]

/-- It stands where nothing old has turned. -/
theorem Row.below {B : Nat} {w w' : World} {a : Option Addr} {len : Nat} {zs : List Int} (h : Row w a len zs) (hb : Below B w w') (hB : ∀ b off, a = some ⟨b, off, none⟩ → b < B) : Row w' a len zs where
  size := h.size
  oct := h.oct
  at_ := fun hp => by
    obtain ⟨b, off, e, hc⟩ := h.at_ hp
    exact ⟨b, off, e, fun i hi => by rw [hb.cell (hB b off e)]; exact hc i hi⟩

/-- Its block is one of the world's. -/
theorem Row.old {w : World} {a : Option Addr} {len : Nat} {zs : List Int} (h : Row w a len zs) (hp : 0 < len) (b off : Nat) (e : a = some ⟨b, off, none⟩) : b < w.heap.size := by
  obtain ⟨b', off', e', hc⟩ := h.at_ hp
  rw [e] at e'; cases e'
  exact block_lt_of_cell (hc 0 hp)
end Go.Proofs.YtkfmmpolcjbnbaaGreatDoor
namespace Go.Proofs.YtkfmmpolcjbnbaaGreatDoor
open Pl Go.RowKit

set_option maxHeartbeats 2000000 in
theorem checkBytes_any (t : Int) (a : Option Addr) (len cap : Nat) (zs : List Int) (w : World) (hr : Row w a len zs) (hlc : len ≤ cap) (hcm : cap ≤ maxLen) :
    Calls Tryz.prog 15 #[.int .u8 t, .slice a len cap] w fun e w' => e = .returned (.int .u32 (cbN t zs)) ∧ w' = w := by
  have hs := hr.size
  have ⟨s0, s1, s5, _⟩ := kind_size t
  have hsb := size_bd t
  unfold maxLen at hcm
  by_cases k0 : kindN t = 0
  · have b0 : (kindN t == 0) = true := by simp [k0]
    have H : Hid (cbN t zs = 134217728) := by show cbN t zs = _; unfold cbN; rw [if_pos k0]
    clear k0 s0 s1 s5 hs hr
    go_enter Tryz.func15, Tryz.ntmps15
    go_wp2_with (go_at_call 10; refine (kindOf_any _ _).mono ?_; rintro e w' ⟨rfl, rfl⟩)
    all_goals go_ret
    all_goals exact ⟨ret_int H.out.symm, rfl⟩
  have b0 : (kindN t == 0) = false := by simp [k0]
  obtain ⟨most, hm⟩ : ∃ most : Int, most = if sizeN t = 0 then 4096 else sizeN t := ⟨_, rfl⟩
  by_cases hl : most < (len : Int)
  · have H : Hid (cbN t zs = 101122066) := by show cbN t zs = _; unfold cbN; rw [if_neg k0, if_pos (by rw [← hm, hs]; exact hl)]
    clear s0 s1 s5 hs hr k0
    by_cases z0 : sizeN t = 0
    · have bz : (sizeN t == 0) = true := by simp [z0]
      rw [if_pos z0] at hm; subst hm; clear z0
      go_enter Tryz.func15, Tryz.ntmps15
      go_wp2_with (go_at_call 10; refine (kindOf_any _ _).mono ?_; rintro e w' ⟨rfl, rfl⟩)
      all_goals go_ret
      all_goals exact ⟨ret_int H.out.symm, rfl⟩
    · have bz : (sizeN t == 0) = false := by simp [z0]
      rw [if_neg z0] at hm; subst hm; clear z0
      go_enter Tryz.func15, Tryz.ntmps15
      go_wp2_with (go_at_call 10; refine (kindOf_any _ _).mono ?_; rintro e w' ⟨rfl, rfl⟩)
      all_goals go_ret
      all_goals exact ⟨ret_int H.out.symm, rfl⟩
  by_cases hsh : (len : Int) < sizeN t
  · have H : Hid (cbN t zs = 101122067) := by show cbN t zs = _; unfold cbN; rw [if_neg k0, if_neg (by rw [← hm, hs]; exact hl), if_pos (by rw [hs]; exact hsh)]
    have bz : (sizeN t == 0) = false := by simp; omega
    rw [if_neg (by omega)] at hm; subst hm
    clear s0 s1 s5 hs hr k0
    go_enter Tryz.func15, Tryz.ntmps15
    go_wp2_with (go_at_call 10; refine (kindOf_any _ _).mono ?_; rintro e w' ⟨rfl, rfl⟩)
    all_goals go_ret
    all_goals exact ⟨ret_int H.out.symm, rfl⟩
  by_cases k1 : kindN t = 1
  · have b1 : (kindN t == 1) = true := by simp [k1]
    have b5 : (kindN t == 5) = false := by simp [k1]
    have e1 := s1 k1
    have bz : (sizeN t == 0) = false := by simp [e1]
    rw [if_neg (by omega)] at hm; subst hm
    obtain ⟨b, off, rfl, hc⟩ := hr.at_ (by omega)
    have hc0 := hc 0 (by omega)
    rw [Nat.add_zero] at hc0
    have ho := hr.oct.getD 0
    by_cases v1 : 1 < zs.getD 0 0
    · have H : Hid (cbN t zs = 101253168) := by show cbN t zs = _; unfold cbN; rw [if_neg k0, if_neg (by rw [if_neg (by omega), hs]; exact hl), if_neg (by rw [hs]; exact hsh), if_pos ⟨k1, v1⟩]
      have hp : (0 : Int) < (len : Int) := by omega
      clear s0 s1 s5 hs hr k0 hc k1
      generalize zs.getD 0 0 = z at *
      go_enter Tryz.func15, Tryz.ntmps15
      go_wp2_with (go_at_call 10; refine (kindOf_any _ _).mono ?_; rintro e w' ⟨rfl, rfl⟩)
      all_goals go_ret
      all_goals exact ⟨ret_int H.out.symm, rfl⟩
    · have H : Hid (cbN t zs = 0) := by show cbN t zs = _; unfold cbN; rw [if_neg k0, if_neg (by rw [if_neg (by omega), hs]; exact hl), if_neg (by rw [hs]; exact hsh), if_neg (by omega), if_neg (by omega)]
      have hp : (0 : Int) < (len : Int) := by omega
      clear s0 s1 s5 hs hr k0 hc k1
      generalize zs.getD 0 0 = z at *
      go_enter Tryz.func15, Tryz.ntmps15
      go_wp2_with (go_at_call 10; refine (kindOf_any _ _).mono ?_; rintro e w' ⟨rfl, rfl⟩)
      all_goals go_ret
      all_goals exact ⟨ret_int H.out.symm, rfl⟩
  have b1 : (kindN t == 1) = false := by simp [k1]
  by_cases k5 : kindN t = 5
  · have b5 : (kindN t == 5) = true := by simp [k5]
    have e5 := s5 k5
    have bz : (sizeN t == 0) = false := by simp [e5]
    rw [if_neg (by omega)] at hm; subst hm
    obtain ⟨b, off, rfl, hc⟩ := hr.at_ (by omega)
    have h4 := hr.head 4 (by omega)
    have hb := num_lt64 _ h4.oct (by rw [h4.size]; omega)
    by_cases v1 : 86400000 ≤ num (zs.take 4)
    · have H : Hid (cbN t zs = 101253168) := by show cbN t zs = _; unfold cbN; rw [if_neg k0, if_neg (by rw [if_neg (by omega), hs]; exact hl), if_neg (by rw [hs]; exact hsh), if_neg (by omega), if_pos ⟨k5, v1⟩]
      have hp : (4 : Int) ≤ (cap : Int) := by omega
      have hp' : (0 : Int) < (cap : Int) := by omega
      clear s0 s1 s5 hs hr k0 hc k1 k5
      go_enter Tryz.func15, Tryz.ntmps15
      go_wp2_with (first | (go_at_call 10; refine (kindOf_any _ _).mono ?_; rintro e w' ⟨rfl, rfl⟩) | (go_at_call 23; refine (number_any _ 4 _ _ _ h4 (by omega)).mono ?_; rintro e w' ⟨rfl, rfl⟩))
      all_goals go_ret
      all_goals exact ⟨ret_int H.out.symm, rfl⟩
    · have H : Hid (cbN t zs = 0) := by show cbN t zs = _; unfold cbN; rw [if_neg k0, if_neg (by rw [if_neg (by omega), hs]; exact hl), if_neg (by rw [hs]; exact hsh), if_neg (by omega), if_neg (by omega)]
      have hp : (4 : Int) ≤ (cap : Int) := by omega
      have hp' : (0 : Int) < (cap : Int) := by omega
      clear s0 s1 s5 hs hr k0 hc k1 k5
      go_enter Tryz.func15, Tryz.ntmps15
      go_wp2_with (first | (go_at_call 10; refine (kindOf_any _ _).mono ?_; rintro e w' ⟨rfl, rfl⟩) | (go_at_call 23; refine (number_any _ 4 _ _ _ h4 (by omega)).mono ?_; rintro e w' ⟨rfl, rfl⟩))
      all_goals go_ret
      all_goals exact ⟨ret_int H.out.symm, rfl⟩
  have b5 : (kindN t == 5) = false := by simp [k5]
  have H : Hid (cbN t zs = 0) := by show cbN t zs = _; unfold cbN; rw [if_neg k0, if_neg (by rw [← hm, hs]; exact hl), if_neg (by rw [hs]; exact hsh), if_neg (by omega), if_neg (by omega)]
  by_cases z0 : sizeN t = 0
  · have bz : (sizeN t == 0) = true := by simp [z0]
    rw [if_pos z0] at hm; subst hm
    clear s0 s1 s5 hs hr k0 k1 k5 z0
    go_enter Tryz.func15, Tryz.ntmps15
    go_wp2_with (go_at_call 10; refine (kindOf_any _ _).mono ?_; rintro e w' ⟨rfl, rfl⟩)
    all_goals go_ret
    all_goals exact ⟨ret_int H.out.symm, rfl⟩
  · have bz : (sizeN t == 0) = false := by simp [z0]
    rw [if_neg z0] at hm; subst hm
    clear s0 s1 s5 hs hr k0 k1 k5 z0
    go_enter Tryz.func15, Tryz.ntmps15
    go_wp2_with (go_at_call 10; refine (kindOf_any _ _).mono ?_; rintro e w' ⟨rfl, rfl⟩)
    all_goals go_ret
    all_goals exact ⟨ret_int H.out.symm, rfl⟩
end Go.Proofs.YtkfmmpolcjbnbaaGreatDoor
