/-
  The walks of readSigned, readHex and readUnsigned: numbers out of digits.
-/
import Derived.Test.YtkfmmpolcjbnbaaDoorRd1
namespace Go.Proofs.YtkfmmpolcjbnbaaDoor
open Pl Go.RowKit

/-- What a number with a sign comes to, in two's complement. -/
def sgnV (below above : Nat) (l : List UInt8) : Option Nat :=
  if l.head? = some 45 then (decV below l.tail).bind fun n => if n = 0 then none else some (18446744073709551616 - n) else decV above l

theorem trim_one (l : List UInt8) (c : UInt8) : Lib.hasPrefix l [c] = (l.head? == some c) ∧ (l.head? = some c → Lib.trimPrefix l [c] = l.tail) := by
  cases l with
  | nil => refine ⟨by rfl, fun h => by simp at h⟩
  | cons x l =>
    refine ⟨?_, fun h => ?_⟩
    · unfold Lib.hasPrefix
      rw [Bool.eq_iff_iff]
      simp [List.isPrefixOf]
      exact eq_comm
    · simp at h
      subst h
      simp [Lib.trimPrefix, Lib.hasPrefix]

set_option maxHeartbeats 2000000 in
set_option maxRecDepth 100000 in
theorem signedRd_any (l : List UInt8) (below above : Nat) (w : World) (hb : below < 18446744073709551616) (ha : above < 18446744073709551616) (hl : l.length ≤ 1000000) :
    Calls Tryd.prog 34 #[.string (str l), .int .u64 (below : Int), .int .u64 (above : Int)] w fun e w' => e = endU (sgnV below above l) ∧ w' = w := by
  have hcp := Tryd.strings_CutPrefix (str l) ⟨#[45]⟩
  have tr := trim_one l 45
  rw [show (str l).data.toList = l from rfl, show (⟨#[45]⟩ : ByteArray).data.toList = [45] from rfl, tr.1] at hcp
  by_cases h : l.head? = some 45
  · rw [tr.2 h, show (l.head? == some 45) = true from by simp [h]] at hcp
    have hcp' : Hid (∀ w : World, Calls Tryd.prog 57 #[.string (str l), .string ⟨#[45]⟩] w fun e w' => e = .returned (.tuple #[.string (str l.tail), .bool true]) ∧ w' = w) := hcp
    have hd := decimal_any l.tail below
    have hlt : l.tail.length ≤ 1000000 := by rw [List.length_tail]; omega
    have HD : Hid (∀ w : World, Calls Tryd.prog 58 #[.string (str l.tail), .int .u64 (below : Int)] w fun e w' => e = endU (decV below l.tail) ∧ w' = w) := fun w => hd w hb hlt
    have HE : Hid (sgnV below above l = (decV below l.tail).bind fun n => if n = 0 then none else some (18446744073709551616 - n)) := by show _ = _; unfold sgnV; rw [if_pos h]
    have HB : Hid (∀ n, decV below l.tail = some n → n ≤ below) := fun n hn => by
      unfold decV at hn
      split at hn
      · exact decFold_le below _ 0 n (Nat.zero_le _) hn
      · simp at hn
    rw [HE.out]
    clear hcp tr h hd hlt HE
    generalize str l.tail = st at *
    generalize str l = sl at *
    cases hv : decV below l.tail with
    | none =>
      rw [hv] at HD
      have HD' : Hid (∀ w : World, Calls Tryd.prog 58 #[.string st, .int .u64 (below : Int)] w fun e w' => e = .panicked bad ∧ w' = w) := HD
      clear hv HB HD
      go_enter Tryd.func34, Tryd.ntmps34
      go_wp2_with fail
      refine (hcp'.out _).mono ?_
      rintro e w ⟨rfl, rfl⟩
      go_wp2_with fail
      refine (HD'.out _).mono ?_
      rintro e w ⟨rfl, rfl⟩
      go_wp2_with fail
      exact ⟨rfl, rfl, rfl⟩
    | some n =>
      rw [hv] at HD
      have HD' : Hid (∀ w : World, Calls Tryd.prog 58 #[.string st, .int .u64 (below : Int)] w fun e w' => e = .returned (.int .u64 (n : Int)) ∧ w' = w) := HD
      have hn := HB.out n hv
      clear hv HB
      by_cases h0 : n = 0
      · subst h0
        clear HD
        go_enter Tryd.func34, Tryd.ntmps34
        go_wp2_with fail
        refine (hcp'.out _).mono ?_
        rintro e w ⟨rfl, rfl⟩
        go_wp2_with fail
        refine (HD'.out _).mono ?_
        rintro e w ⟨rfl, rfl⟩
        go_wp2_with fail
        refine (must_false _).mono ?_
        rintro e w ⟨rfl, rfl⟩
        go_wp2_with fail
        exact ⟨rfl, rfl, rfl⟩
      · have hp : (0 : Int) < (n : Int) := by omega
        have hp' : 0 < n := by omega
        have hw : IntKind.u64.wrap (-(n : Int)) = ((18446744073709551616 - n : Nat) : Int) := by rw [IntKind.wrap_u64]; omega
        have HN : Hid (endU ((some n).bind fun n => if n = 0 then none else some (18446744073709551616 - n)) = .returned (.int .u64 ((18446744073709551616 - n : Nat) : Int))) := by show _ = _; simp [h0, endU]
        obtain ⟨q, HQ⟩ : ∃ q : Int, Hid (((18446744073709551616 - n : Nat) : Int) = q) := ⟨_, rfl⟩
        rw [HQ.out] at hw HN
        clear h0 HD
        go_enter Tryd.func34, Tryd.ntmps34
        go_wp2_with fail
        refine (hcp'.out _).mono ?_
        rintro e w ⟨rfl, rfl⟩
        go_wp2_with fail
        refine (HD'.out _).mono ?_
        rintro e w ⟨rfl, rfl⟩
        go_wp2_with fail
        refine (must_true _).mono ?_
        rintro e w ⟨rfl, rfl⟩
        go_wp2_with fail
        go_ret
        exact ⟨HN.out.symm, rfl⟩
  · rw [show (l.head? == some 45) = false from by simpa using h] at hcp
    have HE : Hid (sgnV below above l = decV above l) := by show _ = _; unfold sgnV; rw [if_neg h]
    have HD : Hid (∀ w : World, Calls Tryd.prog 58 #[.string (str l), .int .u64 (above : Int)] w fun e w' => e = endU (decV above l) ∧ w' = w) := fun w => decimal_any l above w ha hl
    have hcp' : Hid (∀ w : World, ∃ s : ByteArray, Calls Tryd.prog 57 #[.string (str l), .string ⟨#[45]⟩] w fun e w' => e = .returned (.tuple #[.string s, .bool false]) ∧ w' = w) := fun w => ⟨_, hcp w⟩
    rw [HE.out]
    clear hcp tr h HE
    generalize str l = sl at *
    obtain ⟨st, hst⟩ := hcp'.out w
    cases hv : decV above l with
    | none =>
      rw [hv] at HD
      have HD' : Hid (∀ w : World, Calls Tryd.prog 58 #[.string sl, .int .u64 (above : Int)] w fun e w' => e = .panicked bad ∧ w' = w) := HD
      clear hv hcp' HD
      go_enter Tryd.func34, Tryd.ntmps34
      go_wp2_with fail
      refine hst.mono ?_
      rintro e w ⟨rfl, rfl⟩
      go_wp2_with fail
      refine (HD'.out _).mono ?_
      rintro e w ⟨rfl, rfl⟩
      go_wp2_with fail
      exact ⟨rfl, rfl, rfl⟩
    | some n =>
      rw [hv] at HD
      have HD' : Hid (∀ w : World, Calls Tryd.prog 58 #[.string sl, .int .u64 (above : Int)] w fun e w' => e = .returned (.int .u64 (n : Int)) ∧ w' = w) := HD
      clear hv hcp' HD
      go_enter Tryd.func34, Tryd.ntmps34
      go_wp2_with fail
      refine hst.mono ?_
      rintro e w ⟨rfl, rfl⟩
      go_wp2_with fail
      refine (HD'.out _).mono ?_
      rintro e w ⟨rfl, rfl⟩
      go_wp2_with fail
      go_ret
      exact ⟨rfl, rfl⟩
#print axioms signedRd_any
end Go.Proofs.YtkfmmpolcjbnbaaDoor
