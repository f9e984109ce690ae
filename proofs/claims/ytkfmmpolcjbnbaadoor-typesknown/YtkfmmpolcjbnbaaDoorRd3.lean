/-
  The walks of readHex and readUnsigned.
-/
import Derived.Test.YtkfmmpolcjbnbaaDoorRd2
namespace Go.Proofs.YtkfmmpolcjbnbaaDoor
open Pl Go.RowKit

/-- A digit's number to the base 16; none: it is none. -/
def hexC (great : Bool) (c : Nat) : Option Nat :=
  if 48 ≤ c ∧ c ≤ 57 then some (c - 48) else if 97 ≤ c ∧ c ≤ 102 then some (c - 87) else if great = true ∧ 65 ≤ c ∧ c ≤ 70 then some (c - 55) else none
/-- Digits more. -/
def hexF (great : Bool) : Nat → List UInt8 → Option Nat
  | n, [] => some n
  | n, c :: l => (hexC great c.toNat).bind fun d => hexF great (16 * n + d) l

theorem hexF_snoc (g : Bool) : ∀ (l : List UInt8) (n : Nat) (c : UInt8), hexF g n (l ++ [c]) = (hexF g n l).bind fun m => (hexC g c.toNat).bind fun d => some (16 * m + d)
  | [], n, c => by simp [hexF]
  | x :: l, n, c => by
    simp only [List.cons_append, hexF]
    cases hexC g x.toNat with
    | none => rfl
    | some m => exact hexF_snoc g l _ c
theorem hexF_none (g : Bool) : ∀ (l r : List UInt8) (n : Nat), hexF g n l = none → hexF g n (l ++ r) = none
  | [], r, n, h => by simp [hexF] at h
  | x :: l, r, n, h => by
    simp only [List.cons_append, hexF] at h ⊢
    cases hs : hexC g x.toNat with
    | none => rfl
    | some m => rw [hs] at h; exact hexF_none g l r _ h
theorem hexC_lt (g : Bool) (c d : Nat) (h : hexC g c = some d) : d < 16 := by
  unfold hexC at h
  split at h
  · simp at h; omega
  split at h
  · simp at h; omega
  split at h
  · simp at h; omega
  · simp at h

def digs : List UInt8 := [48, 49, 50, 51, 52, 53, 54, 55, 56, 57, 97, 98, 99, 100, 101, 102]
/-- What looking the small digits through finds. -/
def idx (c : Nat) : Int := if 48 ≤ c ∧ c ≤ 57 then (c : Int) - 48 else if 97 ≤ c ∧ c ≤ 102 then (c : Int) - 87 else -1
theorem idx_all : ((List.range 256).all fun c => Lib.indexByte digs c.toUInt8 == idx c) = true := by decide +kernel
theorem idx_is (c : Nat) (h : c < 256) : Lib.indexByte digs c.toUInt8 = idx c := by
  have := List.all_eq_true.1 idx_all c (List.mem_range.2 h)
  simpa using this

theorem or4 (n d : Nat) (hn : n < 1152921504606846976) (hd : d < 16) : bits .or .u64 ((n : Int) * 16) (d : Int) = ((16 * n + d : Nat) : Int) := by
  have hk := bits_join .u64 64 (by decide) wraps_u64 4 ((n : Int) * 16) (d : Int) (by omega) (by show (n : Int) * 16 % 16 = 0; omega)
    (by have : (2:Int)^64 = 18446744073709551616 := rfl; rw [this]; omega) (by omega) (by omega)
    (by have : (2:Int)^64 = 18446744073709551616 := rfl; rw [this]; omega)
  rw [hk]; omega

set_option maxHeartbeats 4000000 in
set_option maxRecDepth 100000 in
theorem hexRd_any (g : Bool) (l : List UInt8) (w : World) (hl : l.length ≤ 16) :
    Calls Tryd.prog 59 #[.string (str l), .bool g] w fun e w' => e = endU (hexF g 0 l) ∧ w' = w := by
  obtain ⟨s, HS, htl, hsz, hix⟩ := str_facts l
  have HX : Hid (∀ (k : Nat) (h : k < l.length) (w : World), (Instr.index 9 (.string s) (.int .i64 (k : Int))).run Tryd.prog w = .ok (.int .u8 ((l[k].toNat : Nat) : Int)) w) := hix
  rw [HS.out]
  clear hix htl
  have HI : Hid (∀ (c : Nat), c < 256 → ∀ w : World, Calls Tryd.prog 80 #[.string ⟨#[48, 49, 50, 51, 52, 53, 54, 55, 56, 57, 97, 98, 99, 100, 101, 102]⟩, .int .u8 (c : Int)] w fun e w' => e = .returned (.int .i64 (idx c)) ∧ w' = w) := fun c hc w => by
    have := Tryd.strings_IndexByte ⟨#[48, 49, 50, 51, 52, 53, 54, 55, 56, 57, 97, 98, 99, 100, 101, 102]⟩ (c : Int) w
    rw [show ((c : Int).toNat.toUInt8) = c.toUInt8 from rfl, show (⟨#[48, 49, 50, 51, 52, 53, 54, 55, 56, 57, 97, 98, 99, 100, 101, 102]⟩ : ByteArray).data.toList = digs from rfl, idx_is c hc] at this
    exact this
  go_enter Tryd.func59, Tryd.ntmps59
  go_wp2_with fail
  go_loop [5, 11] (fun n i => ∃ k q : Nat, k ≤ l.length ∧ i = .int .i64 (k : Int) ∧ n = .int .u64 (q : Int) ∧ q < 16 ^ k ∧ hexF g 0 (l.take k) = some q) (fun _ i => l.length - (intOf i).toNat)
  case atStart => exact ⟨0, 0, Nat.zero_le _, rfl, rfl, by decide, rfl⟩
  case round =>
    obtain ⟨k, q, hk, rfl, rfl, hq, hf⟩ := hrel
    by_cases hlt : k < l.length
    · have hlt' : (k : Int) < (l.length : Int) := by omega
      have hix := HX.out k hlt
      have hx : l.take (k + 1) = l.take k ++ [l[k]] := by rw [List.take_succ_eq_append_getElem hlt]
      have FS : Hid (hexF g 0 (l.take (k + 1)) = (hexC g l[k].toNat).bind fun d => some (16 * q + d)) := by show _ = _; rw [hx, hexF_snoc, hf]; rfl
      have FN : Hid (hexC g l[k].toNat = none → endU (hexF g 0 l) = .panicked bad) := fun h => by
        have h1 : hexF g 0 (l.take (k + 1)) = none := by rw [FS.out, h]; rfl
        have h2 := hexF_none g _ (l.drop (k + 1)) 0 h1
        rw [List.take_append_drop] at h2
        rw [h2]; rfl
      have hb : l[k].toNat < 256 := l[k].toNat_lt
      have hq60 : q < 1152921504606846976 := by
        have h1 : 16 ^ k ≤ 16 ^ 15 := Nat.pow_le_pow_right (by decide) (by omega)
        have h2 : (16 : Nat) ^ 15 = 1152921504606846976 := rfl
        omega
      have hq' : ∀ d, d < 16 → 16 * q + d < 16 ^ (k + 1) := fun d hd => by rw [Nat.pow_succ]; omega
      generalize l[k].toNat = c at *
      clear hx hf
      have big : ∃ c' : Nat, c' < 256 ∧ ((g = true ∧ 65 ≤ c ∧ c ≤ 70 ∧ c' = c + 32) ∨ (¬ (g = true ∧ 65 ≤ c ∧ c ≤ 70) ∧ c' = c)) ∧ ((hexC g c = none ∧ idx c' = -1) ∨ ∃ d : Nat, d < 16 ∧ hexC g c = some d ∧ idx c' = (d : Int)) := by
        by_cases h : g = true ∧ 65 ≤ c ∧ c ≤ 70
        · refine ⟨c + 32, by omega, .inl ⟨h.1, h.2.1, h.2.2, rfl⟩, .inr ⟨c - 55, by omega, ?_, ?_⟩⟩
          · unfold hexC; rw [if_neg (by omega), if_neg (by omega), if_pos h]
          · unfold idx; rw [if_neg (by omega), if_pos (by omega)]; omega
        · refine ⟨c, hb, .inr ⟨h, rfl⟩, ?_⟩
          by_cases h1 : 48 ≤ c ∧ c ≤ 57
          · exact .inr ⟨c - 48, by omega, by unfold hexC; rw [if_pos h1], by unfold idx; rw [if_pos h1]; omega⟩
          by_cases h2 : 97 ≤ c ∧ c ≤ 102
          · exact .inr ⟨c - 87, by omega, by unfold hexC; rw [if_neg h1, if_pos h2], by unfold idx; rw [if_neg h1, if_pos h2]; omega⟩
          · exact .inl ⟨by unfold hexC; rw [if_neg h1, if_neg h2, if_neg h], by unfold idx; rw [if_neg h1, if_neg h2]⟩
      obtain ⟨c', hc', hcase, hres⟩ := big
      have HIc := HI.out c' hc'
      have HIc' : Hid (∀ w : World, Calls Tryd.prog 80 #[.string ⟨#[48, 49, 50, 51, 52, 53, 54, 55, 56, 57, 97, 98, 99, 100, 101, 102]⟩, .int .u8 (c' : Int)] w fun e w' => e = .returned (.int .i64 (idx c')) ∧ w' = w) := HIc
      clear HIc
      have ways : (g = true ∧ (65 : Int) ≤ (c : Int) ∧ (c : Int) ≤ 70 ∧ IntKind.u8.wrap ((c : Int) + 32) = (c' : Int)) ∨ (c' = c ∧ (g = false ∨ (g = true ∧ ¬ (65 : Int) ≤ (c : Int)) ∨ (g = true ∧ (65 : Int) ≤ (c : Int) ∧ ¬ (c : Int) ≤ 70))) := by
        rcases hcase with ⟨h1, h2, h3, h4⟩ | ⟨h1, h2⟩
        · exact .inl ⟨h1, by omega, by omega, by rw [IntKind.wrap_u8]; omega⟩
        · refine .inr ⟨h2, ?_⟩
          cases g with
          | false => exact .inl rfl
          | true =>
            by_cases h5 : 65 ≤ c
            · have h6 : ¬ c ≤ 70 := fun h => h1 ⟨rfl, h5, h⟩
              exact .inr (.inr ⟨rfl, by omega, by omega⟩)
            · exact .inr (.inl ⟨rfl, by omega⟩)
      clear hcase
      rcases hres with ⟨hn, hi⟩ | ⟨d, hd, hn, hi⟩
      · have HE : Hid (endU (hexF g 0 l) = .panicked bad) := FN.out hn
        rw [hi] at HIc'
        clear FN FS hn hi hq' hq60
        rcases ways with ⟨rfl, g1, g2, g3⟩ | ⟨rfl, rfl | ⟨rfl, g1⟩ | ⟨rfl, g1, g2⟩⟩
        all_goals
          go_wp2_with fail
          refine (HIc'.out _).mono ?_
          rintro e w ⟨rfl, rfl⟩
          go_wp2_with fail
          refine (must_false _).mono ?_
          rintro e w ⟨rfl, rfl⟩
          go_wp2_with fail
          first | exact ⟨rfl, HE.out.symm, rfl⟩ | exact ⟨HE.out.symm, rfl, rfl⟩ | exact ⟨⟨HE.out.symm, rfl⟩, rfl⟩
      · have FV : Hid (hexF g 0 (l.take (k + 1)) = some (16 * q + d)) := by show _ = _; rw [FS.out, hn]; rfl
        rw [hi] at HIc'
        have o4 := or4 q d hq60 hd
        have hqd := hq' d hd
        obtain ⟨r, hr⟩ : ∃ r, 16 * q + d = r := ⟨_, rfl⟩
        rw [hr] at o4 FV hqd
        have hd0 : (0 : Int) ≤ (d : Int) := by omega
        clear FN FS hn hi hq' hr
        rcases ways with ⟨rfl, g1, g2, g3⟩ | ⟨rfl, rfl | ⟨rfl, g1⟩ | ⟨rfl, g1, g2⟩⟩
        all_goals
          go_wp2_with fail
          refine (HIc'.out _).mono ?_
          rintro e w ⟨rfl, rfl⟩
          go_wp2_with fail
          refine (must_true _).mono ?_
          rintro e w ⟨rfl, rfl⟩
          go_wp2_with fail
          exact ⟨⟨k + 1, r, by omega, by go_num, rfl, hqd, FV.out⟩, by simp [intOf]; omega⟩
    · obtain rfl : k = l.length := by omega
      have hlt' : ¬ (l.length : Int) < (l.length : Int) := by omega
      rw [List.take_of_length_le (Nat.le_refl _)] at hf
      have HE : Hid (endU (hexF g 0 l) = .returned (.int .u64 (q : Int))) := by show _ = _; rw [hf]; rfl
      clear hf hq
      go_wp2_with fail
      go_ret
      exact ⟨HE.out.symm, rfl⟩
#print axioms hexRd_any

/-- What a number without a sign comes to. -/
def unsV (most : Nat) (l : List UInt8) : Option Nat :=
  if Lib.hasPrefix l [48, 120] = true then (if 1 ≤ (Lib.trimPrefix l [48, 120]).length ∧ (Lib.trimPrefix l [48, 120]).length ≤ 16 then (hexF true 0 (Lib.trimPrefix l [48, 120])).bind fun n => if n ≤ most then some n else none else none) else decV most l

theorem trim_len (l p : List UInt8) : (Lib.trimPrefix l p).length ≤ l.length := by
  unfold Lib.trimPrefix
  split
  · rw [List.length_drop]; omega
  · exact Nat.le_refl _

set_option maxHeartbeats 4000000 in
set_option maxRecDepth 100000 in
theorem unsignedRd_any (l : List UInt8) (most : Nat) (w : World) (hm : most < 18446744073709551616) (hl : l.length ≤ 1000000) :
    Calls Tryd.prog 35 #[.string (str l), .int .u64 (most : Int)] w fun e w' => e = endU (unsV most l) ∧ w' = w := by
  have hcp := Tryd.strings_CutPrefix (str l) ⟨#[48, 120]⟩
  rw [show (str l).data.toList = l from rfl, show (⟨#[48, 120]⟩ : ByteArray).data.toList = [48, 120] from rfl] at hcp
  have htl := trim_len l [48, 120]
  by_cases h : Lib.hasPrefix l [48, 120] = true
  · rw [h] at hcp
    have HE : Hid (unsV most l = (if 1 ≤ (Lib.trimPrefix l [48, 120]).length ∧ (Lib.trimPrefix l [48, 120]).length ≤ 16 then (hexF true 0 (Lib.trimPrefix l [48, 120])).bind fun n => if n ≤ most then some n else none else none)) := by show _ = _; unfold unsV; rw [if_pos h]
    clear h
    generalize Lib.trimPrefix l [48, 120] = r at *
    have HC : Hid (∀ w : World, Calls Tryd.prog 57 #[.string (str l), .string ⟨#[48, 120]⟩] w fun e w' => e = .returned (.tuple #[.string (str r), .bool true]) ∧ w' = w) := hcp
    obtain ⟨s, HS, _, hsz, _⟩ := str_facts r
    obtain ⟨sl, HSL, _⟩ := str_facts l
    rw [HS.out, HSL.out] at HC
    rw [HSL.out]
    clear hcp
    by_cases c1 : 1 ≤ r.length ∧ r.length ≤ 16
    rotate_left
    · have HN : Hid (endU (unsV most l) = .panicked bad) := by show _ = _; rw [HE.out, if_neg c1]; rfl
      have sp : (¬ (1 : Int) ≤ (r.length : Int)) ∨ ((1 : Int) ≤ (r.length : Int) ∧ ¬ (r.length : Int) ≤ 16) := by omega
      clear HE c1
      rcases sp with g1 | ⟨g1, g2⟩
      all_goals
        go_enter Tryd.func35, Tryd.ntmps35
        go_wp2_with fail
        refine (HC.out _).mono ?_
        rintro e w ⟨rfl, rfl⟩
        go_wp2_with fail
        first
          | refine (must_false _).mono ?_
          | (rw [show decide (r.length ≤ 16) = false from by simp; omega]; refine (must_false _).mono ?_)
          | (rw [show decide ((r.length : Int) ≤ 16) = false from by simp; omega]; refine (must_false _).mono ?_)
        rintro e w ⟨rfl, rfl⟩
        go_wp2_with fail
        exact ⟨rfl, HN.out.symm, rfl⟩
    have g1 : (1 : Int) ≤ (r.length : Int) := by omega
    have g2 : (r.length : Int) ≤ 16 := by omega
    have hh := fun w => hexRd_any true r w c1.2
    rw [HS.out] at hh
    rw [if_pos c1] at HE
    cases hv : hexF true 0 r with
    | none =>
      rw [hv] at hh HE
      have HH : Hid (∀ w : World, Calls Tryd.prog 59 #[.string s, .bool true] w fun e w' => e = .panicked bad ∧ w' = w) := hh
      have HN : Hid (endU (unsV most l) = .panicked bad) := by show _ = _; rw [HE.out]; rfl
      clear hh HE hv c1
      go_enter Tryd.func35, Tryd.ntmps35
      go_wp2_with fail
      refine (HC.out _).mono ?_
      rintro e w ⟨rfl, rfl⟩
      go_wp2_with fail
      refine (must_true _).mono ?_
      rintro e w ⟨rfl, rfl⟩
      go_wp2_with fail
      refine (HH.out _).mono ?_
      rintro e w ⟨rfl, rfl⟩
      go_wp2_with fail
      exact ⟨rfl, HN.out.symm, rfl⟩
    | some n =>
      rw [hv] at hh HE
      have HH : Hid (∀ w : World, Calls Tryd.prog 59 #[.string s, .bool true] w fun e w' => e = .returned (.int .u64 (n : Int)) ∧ w' = w) := hh
      by_cases c2 : n ≤ most
      · have HN : Hid (endU (unsV most l) = .returned (.int .u64 (n : Int))) := by show _ = _; rw [HE.out]; show endU (if n ≤ most then some n else none) = _; rw [if_pos c2]; rfl
        have g3 : (n : Int) ≤ (most : Int) := by omega
        clear hh HE hv c1
        go_enter Tryd.func35, Tryd.ntmps35
        go_wp2_with fail
        refine (HC.out _).mono ?_
        rintro e w ⟨rfl, rfl⟩
        go_wp2_with fail
        refine (must_true _).mono ?_
        rintro e w ⟨rfl, rfl⟩
        go_wp2_with fail
        refine (HH.out _).mono ?_
        rintro e w ⟨rfl, rfl⟩
        go_wp2_with fail
        refine (must_true _).mono ?_
        rintro e w ⟨rfl, rfl⟩
        go_wp2_with fail
        go_ret
        exact ⟨HN.out.symm, rfl⟩
      · have HN : Hid (endU (unsV most l) = .panicked bad) := by show _ = _; rw [HE.out]; show endU (if n ≤ most then some n else none) = _; rw [if_neg c2]; rfl
        have g3 : decide (n ≤ most) = false := by simp; omega
        clear hh HE hv c1
        go_enter Tryd.func35, Tryd.ntmps35
        go_wp2_with fail
        refine (HC.out _).mono ?_
        rintro e w ⟨rfl, rfl⟩
        go_wp2_with fail
        refine (must_true _).mono ?_
        rintro e w ⟨rfl, rfl⟩
        go_wp2_with fail
        refine (HH.out _).mono ?_
        rintro e w ⟨rfl, rfl⟩
        go_wp2_with fail
        first
          | refine (must_false _).mono ?_
          | (rw [show decide (n ≤ most) = false from by simp; omega]; refine (must_false _).mono ?_)
          | (rw [show decide ((n : Int) ≤ (most : Int)) = false from by simp; omega]; refine (must_false _).mono ?_)
        rintro e w ⟨rfl, rfl⟩
        go_wp2_with fail
        exact ⟨rfl, HN.out.symm, rfl⟩
  · have hf : Lib.hasPrefix l [48, 120] = false := by simpa using h
    rw [hf] at hcp
    have HE : Hid (unsV most l = decV most l) := by show _ = _; unfold unsV; rw [if_neg h]
    clear h hf
    generalize Lib.trimPrefix l [48, 120] = r at *
    have hd := fun w => decimal_any l most w hm hl
    obtain ⟨sl, HSL, _⟩ := str_facts l
    rw [HSL.out] at hd hcp
    rw [HSL.out]
    have HC : Hid (∀ w : World, Calls Tryd.prog 57 #[.string sl, .string ⟨#[48, 120]⟩] w fun e w' => e = .returned (.tuple #[.string ⟨r.toArray⟩, .bool false]) ∧ w' = w) := hcp
    generalize (⟨r.toArray⟩ : ByteArray) = rs at *
    clear hcp
    cases hv : decV most l with
    | none =>
      rw [hv] at hd HE
      have HH : Hid (∀ w : World, Calls Tryd.prog 58 #[.string sl, .int .u64 (most : Int)] w fun e w' => e = .panicked bad ∧ w' = w) := hd
      have HN : Hid (endU (unsV most l) = .panicked bad) := by show _ = _; rw [HE.out]; rfl
      clear hd HE hv
      go_enter Tryd.func35, Tryd.ntmps35
      go_wp2_with fail
      refine (HC.out _).mono ?_
      rintro e w ⟨rfl, rfl⟩
      go_wp2_with fail
      refine (HH.out _).mono ?_
      rintro e w ⟨rfl, rfl⟩
      go_wp2_with fail
      exact ⟨rfl, HN.out.symm, rfl⟩
    | some n =>
      rw [hv] at hd HE
      have HH : Hid (∀ w : World, Calls Tryd.prog 58 #[.string sl, .int .u64 (most : Int)] w fun e w' => e = .returned (.int .u64 (n : Int)) ∧ w' = w) := hd
      have HN : Hid (endU (unsV most l) = .returned (.int .u64 (n : Int))) := by show _ = _; rw [HE.out]; rfl
      clear hd HE hv
      go_enter Tryd.func35, Tryd.ntmps35
      go_wp2_with fail
      refine (HC.out _).mono ?_
      rintro e w ⟨rfl, rfl⟩
      go_wp2_with fail
      refine (HH.out _).mono ?_
      rintro e w ⟨rfl, rfl⟩
      go_wp2_with fail
      go_ret
      exact ⟨HN.out.symm, rfl⟩
#print axioms unsignedRd_any
end Go.Proofs.YtkfmmpolcjbnbaaDoor
