/-
  Digits to the base 16: what they are, and the walks of the document's digit and value.
-/
import Derived.Test.YtndlpjfofjikeaaBas
namespace Go.Proofs.Ytndlpjfofjikeaa
open Go.RowKit

/-- A digit's byte. -/
def digZ (k : Int) : Int := if k < 10 then 48 + k else 55 + k
/-- A byte's digit; -1: it is none. -/
def valZ (c : Int) : Int := if 48 ≤ c ∧ c ≤ 57 then c - 48 else if 65 ≤ c ∧ c ≤ 70 then c - 55 else -1

theorem digZ_bd (k : Int) (h0 : 0 ≤ k) (h1 : k < 16) : 48 ≤ digZ k ∧ digZ k ≤ 70 ∧ digZ k ≠ 82 := by unfold digZ; split <;> omega
theorem valZ_bd (c : Int) : -1 ≤ valZ c ∧ valZ c < 16 := by unfold valZ; split <;> (try split) <;> omega
theorem valZ_digZ (k : Int) (h0 : 0 ≤ k) (h1 : k < 16) : valZ (digZ k) = k := by
  unfold digZ valZ
  by_cases h : k < 10
  · rw [if_pos h, if_pos (by omega)]; omega
  · rw [if_neg h, if_neg (by omega), if_pos (by omega)]; omega
theorem digZ_valZ (c : Int) (h : 0 ≤ valZ c) : digZ (valZ c) = c := by
  unfold valZ at h ⊢
  by_cases h1 : 48 ≤ c ∧ c ≤ 57
  · rw [if_pos h1] at h ⊢
    unfold digZ; rw [if_pos (by omega)]; omega
  · rw [if_neg h1] at h ⊢
    by_cases h2 : 65 ≤ c ∧ c ≤ 70
    · rw [if_pos h2] at h ⊢
      unfold digZ; rw [if_neg (by omega)]; omega
    · rw [if_neg h2] at h; omega
theorem valZ_none (c : Int) (h : ∀ k : Nat, k < 16 → digZ (k : Int) ≠ c) : valZ c = -1 := by
  by_cases hv : 0 ≤ valZ c
  · have hb := valZ_bd c
    have := h (valZ c).toNat (by omega)
    rw [show (((valZ c).toNat : Nat) : Int) = valZ c from by omega] at this
    exact absurd (digZ_valZ c hv) this
  · have := valZ_bd c; omega

/-- All digits. -/
abbrev hexS : ByteArray := ⟨#[48, 49, 50, 51, 52, 53, 54, 55, 56, 57, 65, 66, 67, 68, 69, 70]⟩

theorem hexS_cut (n : Nat) (h : n < 16) : hexS.extract n (n + 1) = strOfNums [digZ n] := by
  have h9 : n = 0 ∨ n = 1 ∨ n = 2 ∨ n = 3 ∨ n = 4 ∨ n = 5 ∨ n = 6 ∨ n = 7 ∨ n = 8 ∨ n = 9 ∨ n = 10 ∨ n = 11 ∨ n = 12 ∨ n = 13 ∨ n = 14 ∨ n = 15 := by omega
  rcases h9 with rfl | rfl | rfl | rfl | rfl | rfl | rfl | rfl | rfl | rfl | rfl | rfl | rfl | rfl | rfl | rfl <;> decide +kernel

theorem digit_at (k : IntKind) (x : Int) (h0 : 0 ≤ x) (h1 : x < 16) (w : World) : (Instr.index 9 (.string hexS) (.int k x)).run Try.prog w = .ok (.int .u8 (digZ x)) w := by
  have : x = 0 ∨ x = 1 ∨ x = 2 ∨ x = 3 ∨ x = 4 ∨ x = 5 ∨ x = 6 ∨ x = 7 ∨ x = 8 ∨ x = 9 ∨ x = 10 ∨ x = 11 ∨ x = 12 ∨ x = 13 ∨ x = 14 ∨ x = 15 := by omega
  rcases this with rfl | rfl | rfl | rfl | rfl | rfl | rfl | rfl | rfl | rfl | rfl | rfl | rfl | rfl | rfl | rfl <;> (simp [go_sem, digZ]; rfl)

/-- A row's byte; 0 behind it. -/
def zb (zs : List Int) (i : Nat) : Int := zs.getD i 0

theorem index_run (zs : List Int) (ho : Oct zs) (k : Nat) (h : k < zs.length) (w : World) : (Instr.index 9 (.string (strOfNums zs)) (.int .i64 (k : Int))).run Try.prog w = .ok (.int .u8 (zb zs k)) w := by
  have hs : (strOfNums zs).size = zs.length := strOfNums_size zs
  have e : zb zs k = zs[k] := by simp [zb, List.getD_eq_getElem?_getD, h]
  have hb := ho zs[k] (List.getElem_mem h)
  have e2 : ((UInt8.ofNat zs[k].toNat).toNat : Int) = zs[k] := by simp; omega
  have e3 : (strOfNums zs)[k]'(by rw [hs]; exact h) = UInt8.ofNat zs[k].toNat := by
    have hk : k < (strOfNums zs).data.size := by rw [← hs] at h; exact h
    show (strOfNums zs).data[k]'hk = _
    simp [strOfNums]
  simp [go_sem, hs, h]
  rw [e, e3]
  exact e2

/-- A text made of numbers, and what is known of it. -/
theorem str_facts (zs : List Int) (ho : Oct zs) : ∃ s, Hid (strOfNums zs = s) ∧ s.size = zs.length ∧ (∀ (k : Nat) (_ : k < zs.length) (w : World), (Instr.index 9 (.string s) (.int .i64 (k : Int))).run Try.prog w = .ok (.int .u8 (zb zs k)) w) :=
  ⟨strOfNums zs, rfl, strOfNums_size zs, fun k h w => index_run zs ho k h w⟩

end Go.Proofs.Ytndlpjfofjikeaa
