/-
  Digits to the base 16: what they are, and the walks of the document's digit and value.
-/
import Derived.Test.YtbjbnfhmehkkpaaBas
namespace Go.Proofs.Ytbjbnfhmehkkpaa
open Go.RowKit

/-- A digit's byte. -/
def digZ (k : Int) : Int := if k < 10 then 48 + k else 55 + k
/-- A byte's digit; -1: it is none. -/
def valZ (c : Int) : Int := if 48 ≤ c ∧ c ≤ 57 then c - 48 else if 65 ≤ c ∧ c ≤ 70 then c - 55 else -1

theorem digZ_bd (k : Int) (h0 : 0 ≤ k) (h1 : k < 16) : 48 ≤ digZ k ∧ digZ k ≤ 70 ∧ digZ k ≠ 82 := by unfold digZ; split <;> omega
theorem valZ_bd (c : Int) : -1 ≤ valZ c ∧ valZ c < 16 := by unfold valZ; split <;> (try split) <;> omega
theorem valZ_digZ (k : Int) (h0 : 0 ≤ k) (h1 : k < 16) : valZ (digZ k) = k := by
  unfold digZ valZ
  by_cases h : k < 10
  · rw [if_pos h, if_pos (by omega)]; omega
  · rw [if_neg h, if_neg (by omega), if_pos (by omega)]; omega
theorem digZ_valZ (c : Int) (h : 0 ≤ valZ c) : digZ (valZ c) = c := by
  unfold valZ at h ⊢
  by_cases h1 : 48 ≤ c ∧ c ≤ 57
  · rw [if_pos h1] at h ⊢
    unfold digZ; rw [if_pos (by omega)]; omega
  · rw [if_neg h1] at h ⊢
    by_cases h2 : 65 ≤ c ∧ c ≤ 70
    · rw [if_pos h2] at h ⊢
      unfold digZ; rw [if_neg (by omega)]; omega
    · rw [if_neg h2] at h; omega
theorem valZ_none (c : Int) (h : ∀ k : Nat, k < 16 → digZ (k : Int) ≠ c) : valZ c = -1 := by
  by_cases hv : 0 ≤ valZ c
  · have hb := valZ_bd c
    have := h (valZ c).toNat (by omega)
    rw [show (((valZ c).toNat : Nat) : Int) = valZ c from by omega] at this
    exact absurd (digZ_valZ c hv) this
  · have := valZ_bd c; omega

/-- All digits. -/
abbrev hexS : ByteArray := ⟨#[48, 49, 50, 51, 52, 53, 54, 55, 56, 57, 65, 66, 67, 68, 69, 70]⟩

theorem hexS_cut (n : Nat) (h : n < 16) : hexS.extract n (n + 1) = strOfNums [digZ n] := by
  have h9 : n = 0 ∨ n = 1 ∨ n = 2 ∨ n = 3 ∨ n = 4 ∨ n = 5 ∨ n = 6 ∨ n = 7 ∨ n = 8 ∨ n = 9 ∨ n = 10 ∨ n = 11 ∨ n = 12 ∨ n = 13 ∨ n = 14 ∨ n = 15 := by omega
  rcases h9 with rfl | rfl | rfl | rfl | rfl | rfl | rfl | rfl | rfl | rfl | rfl | rfl | rfl | rfl | rfl | rfl <;> decide +kernel

theorem digit_at (k : IntKind) (x : Int) (h0 : 0 ≤ x) (h1 : x < 16) (w : World) : (Instr.index 9 (.string hexS) (.int k x)).run Try.prog w = .ok (.int .u8 (digZ x)) w := by
  have : x = 0 ∨ x = 1 ∨ x = 2 ∨ x = 3 ∨ x = 4 ∨ x = 5 ∨ x = 6 ∨ x = 7 ∨ x = 8 ∨ x = 9 ∨ x = 10 ∨ x = 11 ∨ x = 12 ∨ x = 13 ∨ x = 14 ∨ x = 15 := by omega
  rcases this with rfl | rfl | rfl | rfl | rfl | rfl | rfl | rfl | rfl | rfl | rfl | rfl | rfl | rfl | rfl | rfl <;> (simp [go_sem, digZ]; rfl)

/-- A row's byte; 0 behind it. -/
def zb (zs : List Int) (i : Nat) : Int := zs.getD i 0

theorem index_run (zs : List Int) (ho : Oct zs) (k : Nat) (h : k < zs.length) (w : World) : (Instr.index 9 (.string (strOfNums zs)) (.int .i64 (k : Int))).run Try.prog w = .ok (.int .u8 (zb zs k)) w := by
  have hs : (strOfNums zs).size = zs.length := strOfNums_size zs
  have e : zb zs k = zs[k] := by simp [zb, List.getD_eq_getElem?_getD, h]
  have hb := ho zs[k] (List.getElem_mem h)
  have e2 : ((UInt8.ofNat zs[k].toNat).toNat : Int) = zs[k] := by simp; omega
  have e3 : (strOfNums zs)[k]'(by rw [hs]; exact h) = UInt8.ofNat zs[k].toNat := by
    have hk : k < (strOfNums zs).data.size := by rw [← hs] at h; exact h
    show (strOfNums zs).data[k]'hk = _
    simp [strOfNums]
  simp [go_sem, hs, h]
  rw [e, e3]
  exact e2

/-- A text made of numbers, and what is known of it. -/
theorem str_facts (zs : List Int) (ho : Oct zs) : ∃ s, Hid (strOfNums zs = s) ∧ s.size = zs.length ∧ (∀ (k : Nat) (_ : k < zs.length) (w : World), (Instr.index 9 (.string s) (.int .i64 (k : Int))).run Try.prog w = .ok (.int .u8 (zb zs k)) w) :=
  ⟨strOfNums zs, rfl, strOfNums_size zs, fun k h w => index_run zs ho k h w⟩

set_option maxHeartbeats 1000000 in
theorem digit_any (n : Nat) (w : World) (h : n < 16) :
    Calls Try.prog 25 #[.int .i64 (n : Int)] w fun e w' => e = .returned (.string (strOfNums [digZ n])) ∧ w' = w := by
  have h' : (n : Int) < 16 := by omega
  have hsl : ∀ w, (Instr.slice 9 (.string hexS) (some (.int .i64 (n : Int))) (some (.int .i64 ((n : Int) + 1))) none).run Try.prog w = .ok (.string (strOfNums [digZ n])) w := fun w => by
    have := run_slice_string (P := Try.prog) w 9 hexS .i64 .i64 (n : Int) ((n : Int) + 1) Try.underlying9 (by omega) (by omega) (by show (n : Int) + 1 ≤ 16; omega)
    rw [this]
    congr 2
    rw [show ((n : Int) + 1).toNat = n + 1 from by omega, show ((n : Int)).toNat = n from by omega]
    exact hexS_cut n h
  go_enter Try.func25, Try.ntmps25
  go_wp2_with fail
  go_ret
  exact ⟨rfl, rfl⟩

set_option maxHeartbeats 1000000 in
set_option maxRecDepth 100000 in
theorem value_any (c : Int) (w : World) :
    Calls Try.prog 29 #[.int .u8 c] w fun e w' => e = .returned (.int .i64 (valZ c)) ∧ w' = w := by
  go_enter Try.func29, Try.ntmps29
  go_wp2_with fail
  go_loop [3] (fun i => ∃ k : Nat, k ≤ 16 ∧ i = .int .i64 (k : Int) ∧ ∀ j : Nat, j < k → digZ (j : Int) ≠ c) (fun i => 16 - (intOf i).toNat)
  case atStart => exact ⟨0, Nat.zero_le _, rfl, fun j hj => absurd hj (Nat.not_lt_zero _)⟩
  case round =>
    obtain ⟨k, hk, rfl, hall⟩ := hrel
    have HA : Hid (∀ j : Nat, j < k → digZ (j : Int) ≠ c) := hall
    clear hall
    by_cases hlt : k < 16
    · have hlt' : (k : Int) < 16 := by omega
      have hbd := digZ_bd k (by omega) hlt'
      obtain ⟨s, HS, hsz, hix⟩ := str_facts [digZ (k : Int)] (fun n hn => by simp at hn; omega)
      have hx0 : ∀ w, (Instr.index 9 (.string s) (.int .i64 0)).run Try.prog w = .ok (.int .u8 (digZ (k : Int))) w := fun w => hix 0 (Nat.zero_lt_one) w
      clear hix
      go_wp2_with fail
      refine (digit_any k _ hlt).mono ?_
      rw [HS.out]
      rintro e w' ⟨rfl, rfl⟩
      clear HS hsz hbd
      by_cases he : digZ (k : Int) = c
      · have V : Hid (valZ c = k) := by show _ = _; rw [← he]; exact valZ_digZ k (by omega) hlt'
        have he' : (digZ (k : Int) == c) = true := by simp [he]
        clear he
        generalize digZ (k : Int) = z at *
        go_wp2_with fail
        go_ret
        exact ⟨ret_int V.out.symm, rfl⟩
      · have he' : (digZ (k : Int) == c) = false := by simp [he]
        have HN : Hid (∀ j : Nat, j < k + 1 → digZ (j : Int) ≠ c) := fun j hj => by
          by_cases e : j = k
          · subst e; exact he
          · exact HA.out j (by omega)
        clear he HA
        generalize digZ (k : Int) = z at *
        go_wp2_with fail
        exact ⟨⟨k + 1, by omega, by go_num, HN.out⟩, by simp [intOf]; omega⟩
    · obtain rfl : k = 16 := by omega
      go_wp2_with fail
      go_ret
      exact ⟨ret_int (valZ_none c HA.out).symm, rfl⟩
#print axioms value_any
end Go.Proofs.Ytbjbnfhmehkkpaa
