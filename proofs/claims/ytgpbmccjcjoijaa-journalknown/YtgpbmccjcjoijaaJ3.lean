/-
  The walk of the check.
-/
import Derived.Test.YtgpbmccjcjoijaaJ1
namespace Go.Proofs.Ytgpbmccjcjoijaa
open Go.RowKit

theorem xor16 {a b : Int} (ha : 0 ≤ a ∧ a < 65536) (hb : 0 ≤ b ∧ b < 65536) : 0 ≤ bits .xor .u16 a b ∧ bits .xor .u16 a b < 65536 := by
  rw [Go.u16_xor a b ha.1 ha.2 hb.1 hb.2]
  have := Nat.xor_lt_two_pow (n := 16) (x := a.toNat) (y := b.toNat) (by omega) (by omega)
  omega
theorem rnd_u16 (s : Int) : 0 ≤ rnd s ∧ rnd s < 65536 := by
  unfold rnd
  split
  · exact xor16 (by omega) (by omega)
  · omega
theorem rnds_u16 {s : Int} (h : 0 ≤ s ∧ s < 65536) (k : Nat) : 0 ≤ rnds k s ∧ rnds k s < 65536 := by
  cases k with
  | zero => exact h
  | succ k => exact rnd_u16 _
theorem tkIn_u16 {s x : Int} (hs : 0 ≤ s ∧ s < 65536) (hx : 0 ≤ x ∧ x < 256) : 0 ≤ tkIn s x ∧ tkIn s x < 65536 := rnds_u16 (xor16 hs (by omega)) 8
theorem crcA_u16 {l : List Int} (ho : Oct l) : ∀ {s : Int}, 0 ≤ s ∧ s < 65536 → 0 ≤ crcA s l ∧ crcA s l < 65536 := by
  induction l with
  | nil => intro s h; exact h
  | cons x l ih => intro s h; exact ih (fun n hn => ho n (by simp [hn])) (tkIn_u16 h (ho x (by simp)))

set_option maxHeartbeats 800000 in
theorem takeIn_any (s x : Int) (hs : 0 ≤ s ∧ s < 65536) (hx : 0 ≤ x ∧ x < 256) (w : World) :
    Calls Try.prog 73 #[.int .u16 s, .int .u8 x] w fun e w' => e = .returned (.int .u16 (tkIn s x)) ∧ w' = w := by
  have hX := xor16 (a := s) (b := x * 256) hs (by omega)
  obtain ⟨hs, hs'⟩ := hs
  obtain ⟨hx, hx'⟩ := hx
  have e1 : x * 256 < 65536 := by omega
  unfold tkIn
  obtain ⟨S, hS⟩ : ∃ S, bits .xor .u16 s (x * 256) = S := ⟨_, rfl⟩
  rw [hS] at hX ⊢
  go_enter Try.func73, Try.ntmps73
  go_wp2_with fail
  clear hS
  go_loop [0, 11] (fun s i => ∃ k : Nat, k ≤ 8 ∧ i = .int .i64 k ∧ s = .int .u16 (rnds k S)) (fun _ i => 8 - (intOf i).toNat)
  case atStart => exact ⟨0, by omega, rfl, rfl⟩
  case round =>
    obtain ⟨k, hk, rfl, rfl⟩ := hrel
    have hr := rnds_u16 hX k
    by_cases hlt : k < 8
    · have hn : Hid (rnds (k + 1) S = rnd (rnds k S)) := rfl
      generalize rnds k S = q at *
      obtain ⟨q0, q1⟩ := hr
      have W : IntKind.u16.wrap (q * 2) = q * 2 % 65536 := by simp [IntKind.wrap, IntKind.bits, IntKind.signed]
      by_cases hq : q / 32768 = 1
      · have g1 : (q / 32768 == 1) = true := by simp [hq]
        have HR : Hid (rnd q = bits .xor .u16 (q * 2 % 65536) 4129) := by show rnd q = _; unfold rnd; rw [if_pos hq]
        clear hq
        go_wp2_with fail
        go_round
        case rel => exact ⟨k + 1, by omega, by go_num, by rw [hn.out, HR.out]⟩
        case measure => simp [intOf]; omega
      · have g1 : (q / 32768 == 1) = false := by simp [hq]
        have HR : Hid (rnd q = q * 2 % 65536) := by show rnd q = _; unfold rnd; rw [if_neg hq]
        clear hq
        go_wp2_with fail
        go_round
        case rel => exact ⟨k + 1, by omega, by go_num, by rw [hn.out, HR.out]⟩
        case measure => simp [intOf]; omega
    · obtain rfl : k = 8 := by omega
      go_wp2_with fail
      go_ret
      exact ⟨rfl, rfl⟩

theorem crcA_next (s : Int) (l : List Int) (k : Nat) (h : k < l.length) : crcA s (l.take (k + 1)) = tkIn (crcA s (l.take k)) (l.getD k 0) := by
  unfold crcA
  rw [List.take_succ_eq_append_getElem h, List.foldl_append]
  simp [List.getD_eq_getElem?_getD, h]
set_option maxHeartbeats 800000 in
theorem crc_any (s : Int) (hs : 0 ≤ s ∧ s < 65536) (a : Option Addr) (len cap : Nat) (l : List Int) (w : World) (hr : Row w a len l) (hl : len ≤ 1000000000) :
    Calls Try.prog 71 #[.int .u16 s, .slice a len cap] w fun e w' => e = .returned (.int .u16 (crcA s l)) ∧ w' = w := by
  have hl' : (len : Int) ≤ 1000000000 := by omega
  go_enter Try.func71, Try.ntmps71
  go_wp2_with fail
  go_loop [0, 9] (fun s' i => ∃ k : Nat, k ≤ len ∧ i = .int .i64 k ∧ s' = .int .u16 (crcA s (l.take k))) (fun _ i => len - (intOf i).toNat)
  case atStart => exact ⟨0, by omega, rfl, rfl⟩
  case round =>
    obtain ⟨k, hk, rfl, rfl⟩ := hrel
    by_cases hlt : k < len
    · obtain ⟨b, off, rfl, hcA⟩ := hr.at_ (by omega)
      have hc := hcA k hlt
      clear hcA
      have hq := crcA_u16 (hr.oct.take k) hs
      have hx := hr.oct.getD k
      have hn : Hid (crcA s (l.take (k + 1)) = tkIn (crcA s (l.take k)) (l.getD k 0)) := by
        exact crcA_next s l k (by rw [hr.size]; exact hlt)
      generalize crcA s (l.take k) = q at *
      generalize l.getD k 0 = x at *
      have hT := takeIn_any q x hq hx w
      have g1 : (k : Int) < len := by omega
      clear hr
      go_wp2_with fail
      with_reducible refine hT.mono ?_
      rintro e w ⟨rfl, rfl⟩
      clear hT
      go_wp2_with fail
      go_round
      case rel => exact ⟨k + 1, by omega, by go_num, by rw [hn.out]⟩
      case measure => simp [intOf]; omega
    · obtain rfl : k = len := by omega
      have hz := hr.size
      have : Hid (l.take k = l) := List.take_of_length_le (by omega)
      go_wp2_with fail
      go_ret
      exact ⟨by rw [this.out]; rfl, rfl⟩
#print axioms crc_any
#print axioms takeIn_any
end Go.Proofs.Ytgpbmccjcjoijaa
