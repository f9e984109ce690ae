/-
  Plain facts, of no program: the kinds and sizes of the types of values, and numbers out of bytes.
  Numbers out of bytes, of no program: the lowest byte first.
  The walks of kindOf, Right, Size, and of the document's Kind, Size, Right: what each tells of a type, any type.
-/
import Derived.WalkKit
import Derived.Lib.EndianBits
import Derived.Test.YtkfmmpolcjbnbaaGreatDoorChecked
import Derived.WalkLawsBesides
import Derived.Deep.Light
namespace Go.Proofs.YtkfmmpolcjbnbaaGreatDoor.Pl

/-- What kindOf tells of a type: its kind. -/
def kindN (t : Int) : Int :=
  if t = 1 then 1 else if t = 2 then 2 else if t = 3 then 2 else if t = 16 then 2 else if t = 4 then 2 else if t = 21 then 2
  else if t = 5 then 3 else if t = 6 then 3 else if t = 22 then 3 else if t = 7 then 3 else if t = 27 then 3
  else if t = 8 then 4 else if t = 17 then 4 else if t = 12 then 5 else if t = 13 then 5 else if t = 9 then 6 else if t = 10 then 7 else if t = 15 then 7 else 0

/-- Its size; 0: it has none. -/
def sizeN (t : Int) : Int :=
  if t = 1 then 1 else if t = 2 then 1 else if t = 3 then 2 else if t = 16 then 3 else if t = 4 then 4 else if t = 21 then 8
  else if t = 5 then 1 else if t = 6 then 2 else if t = 22 then 3 else if t = 7 then 4 else if t = 27 then 8
  else if t = 8 then 4 else if t = 17 then 8 else if t = 12 then 6 else if t = 13 then 6 else 0

/-- What the document's Kind tells: a letter. -/
def letN (t : Int) : Int :=
  if kindN t = 1 then 98 else if kindN t = 2 then 105 else if kindN t = 3 then 117 else if kindN t = 4 then 102 else if kindN t = 5 then 116 else if kindN t = 6 then 115 else if kindN t = 7 then 115 else 0

/-- Each type by its number, or none. -/
theorem type_cases (t : Int) : t = 1 ∨ t = 2 ∨ t = 3 ∨ t = 16 ∨ t = 4 ∨ t = 21 ∨ t = 5 ∨ t = 6 ∨ t = 22 ∨ t = 7 ∨ t = 27 ∨ t = 8 ∨ t = 17 ∨ t = 12 ∨ t = 13 ∨ t = 9 ∨ t = 10 ∨ t = 15 ∨ (kindN t = 0 ∧ sizeN t = 0) := by
  by_cases h1 : t = 1; · exact .inl h1
  by_cases h2 : t = 2; · omega
  by_cases h3 : t = 3; · omega
  by_cases h4 : t = 16; · omega
  by_cases h5 : t = 4; · omega
  by_cases h6 : t = 21; · omega
  by_cases h7 : t = 5; · omega
  by_cases h8 : t = 6; · omega
  by_cases h9 : t = 22; · omega
  by_cases h10 : t = 7; · omega
  by_cases h11 : t = 27; · omega
  by_cases h12 : t = 8; · omega
  by_cases h13 : t = 17; · omega
  by_cases h14 : t = 12; · omega
  by_cases h15 : t = 13; · omega
  by_cases h16 : t = 9; · omega
  by_cases h17 : t = 10; · omega
  by_cases h18 : t = 15; · omega
  have e1 : kindN t = 0 := by simp [kindN, *]
  have e2 : sizeN t = 0 := by simp [sizeN, *]
  omega

/-- What holds of the kind and the size of each type. -/
def facts (k s : Int) : Bool :=
  0 ≤ s && s ≤ 8 && 0 ≤ k && k ≤ 7 && (k != 0 || s == 0) && (k != 1 || s == 1) && (k != 5 || s == 6) && (k != 6 || s == 0) && (k != 7 || s == 0) && (k != 4 || s == 4 || s == 8) && (k == 0 || 6 ≤ k || 1 ≤ s)

theorem facts_all (t : Int) : facts (kindN t) (sizeN t) = true := by
  rcases type_cases t with rfl | rfl | rfl | rfl | rfl | rfl | rfl | rfl | rfl | rfl | rfl | rfl | rfl | rfl | rfl | rfl | rfl | rfl | ⟨h, h'⟩
  all_goals first | decide | (rw [h, h']; decide)

theorem kind_size (t : Int) : (kindN t = 0 → sizeN t = 0) ∧ (kindN t = 1 → sizeN t = 1) ∧ (kindN t = 5 → sizeN t = 6) ∧ (kindN t = 6 → sizeN t = 0) ∧ (kindN t = 7 → sizeN t = 0) ∧
    (kindN t = 4 → sizeN t = 4 ∨ sizeN t = 8) ∧ (1 ≤ kindN t → kindN t ≤ 5 → 1 ≤ sizeN t) := by
  have h := facts_all t
  simp [facts] at h
  omega
theorem size_bd (t : Int) : 0 ≤ sizeN t ∧ sizeN t ≤ 8 := by
  have h := facts_all t
  simp [facts] at h
  omega
theorem kind_bd (t : Int) : 0 ≤ kindN t ∧ kindN t ≤ 7 := by
  have h := facts_all t
  simp [facts] at h
  omega
theorem let_right (t : Int) : (letN t != 0) = (kindN t != 0) := by
  have h := kind_bd t
  unfold letN
  generalize kindN t = k at *
  repeat' split
  all_goals simp_all
  omega
end Go.Proofs.YtkfmmpolcjbnbaaGreatDoor.Pl
namespace Go.Proofs.YtkfmmpolcjbnbaaGreatDoor.Pl

/-- Bytes as a number, the lowest first. -/
def num : List Int → Int
  | [] => 0
  | x :: xs => x + 256 * num xs

/-- What a byte is. -/
def Oct (zs : List Int) : Prop := ∀ n ∈ zs, 0 ≤ n ∧ n < 256

theorem Oct.getD {zs : List Int} (h : Oct zs) (i : Nat) : 0 ≤ zs.getD i 0 ∧ zs.getD i 0 < 256 := by
  by_cases hi : i < zs.length
  · have : zs.getD i 0 ∈ zs := by simp [List.getD_eq_getElem?_getD, hi]
    exact h _ this
  · simp [List.getD_eq_getElem?_getD, hi]
theorem Oct.take {zs : List Int} (h : Oct zs) (k : Nat) : Oct (zs.take k) := fun n hn => h n (List.mem_of_mem_take hn)
theorem Oct.drop {zs : List Int} (h : Oct zs) (k : Nat) : Oct (zs.drop k) := fun n hn => h n (List.mem_of_mem_drop hn)

theorem num_snoc : ∀ (l : List Int) (x : Int), num (l ++ [x]) = num l + x * 2 ^ (8 * l.length)
  | [], x => by simp [num]
  | y :: l, x => by
    simp only [List.cons_append, num, List.length_cons, num_snoc l x]
    have e : (2 : Int) ^ (8 * (l.length + 1)) = 256 * 2 ^ (8 * l.length) := by
      rw [Nat.mul_add, Int.pow_add, Int.mul_comm]; rfl
    rw [e, Int.mul_add, Int.mul_left_comm x 256, Int.add_assoc]

theorem num_bd : ∀ (l : List Int), Oct l → 0 ≤ num l ∧ num l < 2 ^ (8 * l.length)
  | [], _ => by simp [num]
  | y :: l, h => by
    have h1 := h y (by simp)
    have h2 := num_bd l (fun n hn => h n (by simp [hn]))
    have e : (2 : Int) ^ (8 * (l.length + 1)) = 256 * 2 ^ (8 * l.length) := by
      rw [Nat.mul_add, Int.pow_add, Int.mul_comm]; rfl
    simp only [num, List.length_cons]
    rw [e]
    generalize (2 : Int) ^ (8 * l.length) = P at *
    omega

theorem num_take_succ (zs : List Int) (k : Nat) (h : k < zs.length) : num (zs.take (k + 1)) = num (zs.take k) + zs.getD k 0 * 2 ^ (8 * k) := by
  rw [List.take_succ_eq_append_getElem h, num_snoc]
  simp [List.getD_eq_getElem?_getD, h, Nat.min_eq_left (Nat.le_of_lt h)]

theorem pow_le_u64 (k : Nat) (h : k ≤ 8) : (2 : Int) ^ (8 * k) ≤ 18446744073709551616 := by
  have : (2 : Int) ^ (8 * k) ≤ 2 ^ 64 := by exact_mod_cast Nat.pow_le_pow_right (by omega) (by omega : 8 * k ≤ 64)
  exact this

theorem num_lt64 (l : List Int) (h : Oct l) (hl : l.length ≤ 8) : 0 ≤ num l ∧ num l < 18446744073709551616 := by
  have h1 := num_bd l h
  have h2 := pow_le_u64 l.length hl
  omega

/-- A byte more, from below: what the walk has. -/
theorem or_step (zs : List Int) (h : Oct zs) (k : Nat) (hk : k < zs.length) (h8 : zs.length ≤ 8) :
    bits .or .u64 (num (zs.take k)) (zs.getD k 0 * 2 ^ (8 * k)) = num (zs.take (k + 1)) := by
  rw [num_take_succ zs k hk]
  have hb := num_bd _ (h.take k)
  rw [List.length_take, Nat.min_eq_left (by omega)] at hb
  have hx := h.getD k
  have p1 := pow_le_u64 (k + 1) (by omega)
  have p2 : (0 : Int) < 2 ^ (8 * k) := by exact_mod_cast Nat.two_pow_pos _
  have e : (2 : Int) ^ (8 * (k + 1)) = 256 * 2 ^ (8 * k) := by
    rw [Nat.mul_add, Int.pow_add, Int.mul_comm]; rfl
  have m1 : zs.getD k 0 * 2 ^ (8 * k) ≤ 255 * 2 ^ (8 * k) := Int.mul_le_mul_of_nonneg_right (by omega) (by omega)
  have m0 : 0 ≤ zs.getD k 0 * 2 ^ (8 * k) := Int.mul_nonneg hx.1 (by omega)
  refine bits_join_low .u64 64 (by decide) wraps_u64 (8 * k) _ _ hb.1 hb.2 ?_ m0 (Int.mul_emod_left _ _) ?_
  · have : (2:Int)^64 = 18446744073709551616 := rfl
    rw [this]; omega
  · have : (2:Int)^64 = 18446744073709551616 := rfl
    rw [this]; omega

theorem or_step_walk (zs : List Int) (h : Oct zs) (k : Nat) (hk : k < zs.length) (h8 : zs.length ≤ 8) :
    bits .or .u64 (num (zs.take k)) (IntKind.u64.wrap (IntKind.u64.wrap zs[k] * 2 ^ (8 * k))) = num (zs.take (k + 1)) := by
  have hg : zs[k] = zs.getD k 0 := by simp [List.getD_eq_getElem?_getD, hk]
  rw [hg]
  have hx := h.getD k
  have p1 := pow_le_u64 (k + 1) (by omega)
  have p2 : (0 : Int) < 2 ^ (8 * k) := by exact_mod_cast Nat.two_pow_pos _
  have e : (2 : Int) ^ (8 * (k + 1)) = 256 * 2 ^ (8 * k) := by
    rw [Nat.mul_add, Int.pow_add, Int.mul_comm]; rfl
  have m1 : zs.getD k 0 * 2 ^ (8 * k) ≤ 255 * 2 ^ (8 * k) := Int.mul_le_mul_of_nonneg_right (by omega) (by omega)
  have m0 : 0 ≤ zs.getD k 0 * 2 ^ (8 * k) := Int.mul_nonneg hx.1 (by omega)
  rw [u64_wrap_id (zs.getD k 0) (by omega) (by omega), u64_wrap_id (zs.getD k 0 * 2 ^ (8 * k)) m0 (by omega)]
  exact or_step zs h k hk h8

/-- A byte more, from above. -/
theorem or_step_down (l : List Int) (x : Int) (h : Oct (x :: l)) (h8 : l.length ≤ 7) :
    bits .or .u64 (num l * 256) x = num (x :: l) := by
  have h1 := h x (by simp)
  have h2 := num_bd l (fun n hn => h n (by simp [hn]))
  have p1 := pow_le_u64 (l.length + 1) (by omega)
  have e : (2 : Int) ^ (8 * (l.length + 1)) = 256 * 2 ^ (8 * l.length) := by
    rw [Nat.mul_add, Int.pow_add, Int.mul_comm]; rfl
  have hk := bits_join .u64 64 (by decide) wraps_u64 8 (num l * 256) x (by omega) (by show num l * 256 % 256 = 0; omega)
    (by have : (2:Int)^64 = 18446744073709551616 := rfl; rw [this]; generalize (2 : Int) ^ (8 * l.length) = P at *; omega) h1.1 (by omega)
    (by have : (2:Int)^64 = 18446744073709551616 := rfl; rw [this]; omega)
  rw [hk, num]; omega

theorem or_step_down_walk (zs : List Int) (h : Oct zs) (k : Nat) (hk : k < zs.length) (h8 : zs.length ≤ 8) :
    bits .or .u64 (IntKind.u64.wrap (num (zs.drop (k + 1)) * 256)) (IntKind.u64.wrap zs[k]) = num (zs.drop k) := by
  have hd : zs.drop k = zs[k] :: zs.drop (k + 1) := List.drop_eq_getElem_cons hk
  have ho : Oct (zs.drop k) := h.drop k
  have h2 := num_bd _ (h.drop (k + 1))
  have p1 := pow_le_u64 ((zs.drop (k + 1)).length + 1) (by simp; omega)
  have e : (2 : Int) ^ (8 * ((zs.drop (k + 1)).length + 1)) = 256 * 2 ^ (8 * (zs.drop (k + 1)).length) := by
    rw [Nat.mul_add, Int.pow_add, Int.mul_comm]; rfl
  have h3 := h zs[k] (by simp)
  rw [u64_wrap_id _ (by omega) (by generalize (2 : Int) ^ (8 * (zs.drop (k + 1)).length) = P at *; omega), u64_wrap_id zs[k] (by omega) (by omega), hd]
  rw [hd] at ho
  exact or_step_down _ _ ho (by simp; omega)

/-- What checkBytes tells: P1.2 without bounds. -/
def cbN (t : Int) (zs : List Int) : Int :=
  if kindN t = 0 then 134217728
  else if (if sizeN t = 0 then 4096 else sizeN t) < (zs.length : Int) then 101122066
  else if (zs.length : Int) < sizeN t then 101122067
  else if kindN t = 1 ∧ 1 < zs.getD 0 0 then 101253168
  else if kindN t = 5 ∧ 86400000 ≤ num (zs.take 4) then 101253168
  else 0
end Go.Proofs.YtkfmmpolcjbnbaaGreatDoor.Pl
namespace Go.Proofs.YtkfmmpolcjbnbaaGreatDoor
open Pl

theorem ret_int {k : IntKind} {a b : Int} (h : a = b) : Ending.returned (.int k a) = .returned (.int k b) := by rw [h]
theorem ret_bool {a b : Bool} (h : a = b) : Ending.returned (.bool a) = .returned (.bool b) := by rw [h]
theorem ret_ii {k l : IntKind} {a b c d : Int} (h : a = b) (h' : c = d) : Ending.returned (.tuple #[.int k a, .int l c]) = .returned (.tuple #[.int k b, .int l d]) := by rw [h, h']
theorem ret_ib {k : IntKind} {a b : Int} {c d : Bool} (h : a = b) (h' : c = d) : Ending.returned (.tuple #[.int k a, .bool c]) = .returned (.tuple #[.int k b, .bool d]) := by rw [h, h']

set_option maxHeartbeats 1000000 in
theorem kindOf_any (t : Int) (w : World) :
    Calls Tryz.prog 10 #[.int .u8 t] w fun e w' => e = .returned (.tuple #[.int .u8 (kindN t), .int .i64 (sizeN t)]) ∧ w' = w := by
  go_enter Tryz.func10, Tryz.ntmps10
  go_wp2
  all_goals go_ret2
  all_goals refine ⟨ret_ii ?_ ?_, rfl⟩
  all_goals go_light
  all_goals simp_all [kindN, sizeN]

set_option maxHeartbeats 1000000 in
theorem refKind_any (t : Int) (w : World) :
    Calls Tryz.prog 33 #[.int .u8 t] w fun e w' => e = .returned (.int .u8 (letN t)) ∧ w' = w := by
  go_enter Tryz.func33, Tryz.ntmps33
  go_wp2
  all_goals go_ret
  all_goals refine ⟨ret_int ?_, rfl⟩
  all_goals go_light
  all_goals simp_all [letN, kindN]

set_option maxHeartbeats 1000000 in
theorem refSize_any (t : Int) (w : World) :
    Calls Tryz.prog 63 #[.int .u8 t] w fun e w' => e = .returned (.tuple #[.int .i64 (sizeN t), .bool (decide (0 < sizeN t))]) ∧ w' = w := by
  go_enter Tryz.func63, Tryz.ntmps63
  go_wp2
  all_goals go_ret2
  all_goals refine ⟨ret_ib ?_ ?_, rfl⟩
  all_goals go_light
  all_goals simp_all [sizeN]

theorem refRight_any (t : Int) (w : World) :
    Calls Tryz.prog 13 #[.int .u8 t] w fun e w' => e = .returned (.bool (letN t != 0)) ∧ w' = w := by
  go_enter Tryz.func13, Tryz.ntmps13
  go_wp2_with (go_at_call 33; refine (refKind_any _ _).mono ?_; rintro e w' ⟨rfl, rfl⟩)
  go_ret
  exact ⟨rfl, rfl⟩
end Go.Proofs.YtkfmmpolcjbnbaaGreatDoor
