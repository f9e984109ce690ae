/-
  Numbers out of bytes, of no program: the lowest byte first.
-/
import Derived.WalkKit
import Derived.Test.YtajllkkbgpijiaaGreatDoorPlain
import Derived.Lib.EndianBits
namespace Go.Proofs.YtajllkkbgpijiaaGreatDoor.Ty.Pl

/-- Bytes as a number, the lowest first. -/
def num : List Int → Int
  | [] => 0
  | x :: xs => x + 256 * num xs

/-- What a byte is. -/
def Oct (zs : List Int) : Prop := ∀ n ∈ zs, 0 ≤ n ∧ n < 256

theorem Oct.getD {zs : List Int} (h : Oct zs) (i : Nat) : 0 ≤ zs.getD i 0 ∧ zs.getD i 0 < 256 := by
  by_cases hi : i < zs.length
  · have : zs.getD i 0 ∈ zs := by simp [List.getD_eq_getElem?_getD, hi]
    exact h _ this
  · simp [List.getD_eq_getElem?_getD, hi]
theorem Oct.take {zs : List Int} (h : Oct zs) (k : Nat) : Oct (zs.take k) := fun n hn => h n (List.mem_of_mem_take hn)
theorem Oct.drop {zs : List Int} (h : Oct zs) (k : Nat) : Oct (zs.drop k) := fun n hn => h n (List.mem_of_mem_drop hn)

theorem num_snoc : ∀ (l : List Int) (x : Int), num (l ++ [x]) = num l + x * 2 ^ (8 * l.length)
  | [], x => by simp [num]
  | y :: l, x => by
    simp only [List.cons_append, num, List.length_cons, num_snoc l x]
    have e : (2 : Int) ^ (8 * (l.length + 1)) = 256 * 2 ^ (8 * l.length) := by
      rw [Nat.mul_add, Int.pow_add, Int.mul_comm]; rfl
    rw [e, Int.mul_add, Int.mul_left_comm x 256, Int.add_assoc]

theorem num_bd : ∀ (l : List Int), Oct l → 0 ≤ num l ∧ num l < 2 ^ (8 * l.length)
  | [], _ => by simp [num]
  | y :: l, h => by
    have h1 := h y (by simp)
    have h2 := num_bd l (fun n hn => h n (by simp [hn]))
    have e : (2 : Int) ^ (8 * (l.length + 1)) = 256 * 2 ^ (8 * l.length) := by
      rw [Nat.mul_add, Int.pow_add, Int.mul_comm]; rfl
    simp only [num, List.length_cons]
    rw [e]
    generalize (2 : Int) ^ (8 * l.length) = P at *
    omega

theorem num_take_succ (zs : List Int) (k : Nat) (h : k < zs.length) : num (zs.take (k + 1)) = num (zs.take k) + zs.getD k 0 * 2 ^ (8 * k) := by
  rw [List.take_succ_eq_append_getElem h, num_snoc]
  simp [List.getD_eq_getElem?_getD, h, Nat.min_eq_left (Nat.le_of_lt h)]

theorem pow_le_u64 (k : Nat) (h : k ≤ 8) : (2 : Int) ^ (8 * k) ≤ 18446744073709551616 := by
  have : (2 : Int) ^ (8 * k) ≤ 2 ^ 64 := by exact_mod_cast Nat.pow_le_pow_right (by omega) (by omega : 8 * k ≤ 64)
  exact this

theorem num_lt64 (l : List Int) (h : Oct l) (hl : l.length ≤ 8) : 0 ≤ num l ∧ num l < 18446744073709551616 := by
  have h1 := num_bd l h
  have h2 := pow_le_u64 l.length hl
  omega

/-- A byte more, from below: what the walk has. -/
theorem or_step (zs : List Int) (h : Oct zs) (k : Nat) (hk : k < zs.length) (h8 : zs.length ≤ 8) :
    bits .or .u64 (num (zs.take k)) (zs.getD k 0 * 2 ^ (8 * k)) = num (zs.take (k + 1)) := by
  rw [num_take_succ zs k hk]
  have hb := num_bd _ (h.take k)
  rw [List.length_take, Nat.min_eq_left (by omega)] at hb
  have hx := h.getD k
  have p1 := pow_le_u64 (k + 1) (by omega)
  have p2 : (0 : Int) < 2 ^ (8 * k) := by exact_mod_cast Nat.two_pow_pos _
  have e : (2 : Int) ^ (8 * (k + 1)) = 256 * 2 ^ (8 * k) := by
    rw [Nat.mul_add, Int.pow_add, Int.mul_comm]; rfl
  have m1 : zs.getD k 0 * 2 ^ (8 * k) ≤ 255 * 2 ^ (8 * k) := Int.mul_le_mul_of_nonneg_right (by omega) (by omega)
  have m0 : 0 ≤ zs.getD k 0 * 2 ^ (8 * k) := Int.mul_nonneg hx.1 (by omega)
  refine bits_join_low .u64 64 (by decide) wraps_u64 (8 * k) _ _ hb.1 hb.2 ?_ m0 (Int.mul_emod_left _ _) ?_
  · have : (2:Int)^64 = 18446744073709551616 := rfl
    rw [this]; omega
  · have : (2:Int)^64 = 18446744073709551616 := rfl
    rw [this]; omega

theorem or_step_walk (zs : List Int) (h : Oct zs) (k : Nat) (hk : k < zs.length) (h8 : zs.length ≤ 8) :
    bits .or .u64 (num (zs.take k)) (IntKind.u64.wrap (IntKind.u64.wrap zs[k] * 2 ^ (8 * k))) = num (zs.take (k + 1)) := by
  have hg : zs[k] = zs.getD k 0 := by simp [List.getD_eq_getElem?_getD, hk]
  rw [hg]
  have hx := h.getD k
  have p1 := pow_le_u64 (k + 1) (by omega)
  have p2 : (0 : Int) < 2 ^ (8 * k) := by exact_mod_cast Nat.two_pow_pos _
  have e : (2 : Int) ^ (8 * (k + 1)) = 256 * 2 ^ (8 * k) := by
    rw [Nat.mul_add, Int.pow_add, Int.mul_comm]; rfl
  have m1 : zs.getD k 0 * 2 ^ (8 * k) ≤ 255 * 2 ^ (8 * k) := Int.mul_le_mul_of_nonneg_right (by omega) (by omega)
  have m0 : 0 ≤ zs.getD k 0 * 2 ^ (8 * k) := Int.mul_nonneg hx.1 (by omega)
  rw [u64_wrap_id (zs.getD k 0) (by omega) (by omega), u64_wrap_id (zs.getD k 0 * 2 ^ (8 * k)) m0 (by omega)]
  exact or_step zs h k hk h8

/-- A byte more, from above. -/
theorem or_step_down (l : List Int) (x : Int) (h : Oct (x :: l)) (h8 : l.length ≤ 7) :
    bits .or .u64 (num l * 256) x = num (x :: l) := by
  have h1 := h x (by simp)
  have h2 := num_bd l (fun n hn => h n (by simp [hn]))
  have p1 := pow_le_u64 (l.length + 1) (by omega)
  have e : (2 : Int) ^ (8 * (l.length + 1)) = 256 * 2 ^ (8 * l.length) := by
    rw [Nat.mul_add, Int.pow_add, Int.mul_comm]; rfl
  have hk := bits_join .u64 64 (by decide) wraps_u64 8 (num l * 256) x (by omega) (by show num l * 256 % 256 = 0; omega)
    (by have : (2:Int)^64 = 18446744073709551616 := rfl; rw [this]; generalize (2 : Int) ^ (8 * l.length) = P at *; omega) h1.1 (by omega)
    (by have : (2:Int)^64 = 18446744073709551616 := rfl; rw [this]; omega)
  rw [hk, num]; omega

theorem or_step_down_walk (zs : List Int) (h : Oct zs) (k : Nat) (hk : k < zs.length) (h8 : zs.length ≤ 8) :
    bits .or .u64 (IntKind.u64.wrap (num (zs.drop (k + 1)) * 256)) (IntKind.u64.wrap zs[k]) = num (zs.drop k) := by
  have hd : zs.drop k = zs[k] :: zs.drop (k + 1) := List.drop_eq_getElem_cons hk
  have ho : Oct (zs.drop k) := h.drop k
  have h2 := num_bd _ (h.drop (k + 1))
  have p1 := pow_le_u64 ((zs.drop (k + 1)).length + 1) (by simp; omega)
  have e : (2 : Int) ^ (8 * ((zs.drop (k + 1)).length + 1)) = 256 * 2 ^ (8 * (zs.drop (k + 1)).length) := by
    rw [Nat.mul_add, Int.pow_add, Int.mul_comm]; rfl
  have h3 := h zs[k] (by simp)
  rw [u64_wrap_id _ (by omega) (by generalize (2 : Int) ^ (8 * (zs.drop (k + 1)).length) = P at *; omega), u64_wrap_id zs[k] (by omega) (by omega), hd]
  rw [hd] at ho
  exact or_step_down _ _ ho (by simp; omega)

/-- What checkBytes tells: P1.2 without bounds. -/
def cbN (t : Int) (zs : List Int) : Int :=
  if kindN t = 0 then 134217728
  else if (if sizeN t = 0 then 4096 else sizeN t) < (zs.length : Int) then 101122066
  else if (zs.length : Int) < sizeN t then 101122067
  else if kindN t = 1 ∧ 1 < zs.getD 0 0 then 101253168
  else if kindN t = 5 ∧ 86400000 ≤ num (zs.take 4) then 101253168
  else 0
end Go.Proofs.YtajllkkbgpijiaaGreatDoor.Ty.Pl
