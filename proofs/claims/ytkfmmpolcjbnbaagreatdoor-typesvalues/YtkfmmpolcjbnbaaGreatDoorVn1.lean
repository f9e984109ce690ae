/-
  The walks of the document's Number, digit, Hex, cut and minus.
  The walks of the document's cut and bytes.
  A region that draws its order, op by op: short names.
-/
import Derived.Test.YtkfmmpolcjbnbaaGreatDoorWhl1
import Derived.Deep.RegionHeld3
namespace Go.Proofs.YtkfmmpolcjbnbaaGreatDoor
open Pl Go.RowKit

/-- A number, or none, as the document's functions tell it. -/
def endN : Option Nat → Value
  | some n => .tuple #[.int .u64 (n : Int), .bool true]
  | none => .tuple #[.int .u64 0, .bool false]

theorem decFold_ge (most : Nat) : ∀ (l : List UInt8) (n m : Nat), decFold most n l = some m → n * 10 ^ l.length ≤ m
  | [], n, m, h => by simp [decFold] at h; subst h; simp
  | c :: l, n, m, h => by
    simp only [decFold] at h
    cases hs : decStep most n c.toNat with
    | none => rw [hs] at h; cases h
    | some q =>
      rw [hs] at h
      have ih := decFold_ge most l q m h
      have hq : 10 * n ≤ q := by
        unfold decStep at hs
        split at hs
        · cases hs; omega
        · cases hs
      refine Nat.le_trans ?_ ih
      rw [List.length_cons, Nat.pow_succ, Nat.mul_comm (10 ^ l.length) 10, ← Nat.mul_assoc]
      exact Nat.mul_le_mul_right _ (by omega)
/-- Longer digits than 20 tell too much. -/
theorem dec_long (l : List UInt8) (h : 20 < l.length) : decV 18446744073709551615 l = none := by
  cases hv : decV 18446744073709551615 l with
  | none => rfl
  | some m =>
    exfalso
    unfold decV at hv
    split at hv
    · next hg =>
      match l, h with
      | c :: r, h =>
        have hc : c ≠ 48 := by
          rcases hg with hg | hg
          · rw [hg] at h; simp at h
          · simpa using hg.2
        have hle := decFold_le _ _ 0 m (Nat.zero_le _) hv
        simp only [decFold] at hv
        cases hs : decStep 18446744073709551615 0 c.toNat with
        | none => rw [hs] at hv; cases hv
        | some q =>
          rw [hs] at hv
          have hge := decFold_ge _ r q m hv
          have hq : 1 ≤ q := by
            unfold decStep at hs
            split at hs
            · next h48 =>
              cases hs
              have : c.toNat ≠ 48 := fun e => hc (UInt8.toNat_inj.1 e)
              omega
            · cases hs
          have hp : 10 ^ 20 ≤ 10 ^ r.length := Nat.pow_le_pow_right (by decide) (by simp at h; omega)
          have h20 : (10 : Nat) ^ 20 = 100000000000000000000 := rfl
          have : 10 ^ r.length ≤ q * 10 ^ r.length := Nat.le_mul_of_pos_left _ hq
          omega
    · cases hv

set_option maxHeartbeats 4000000 in
set_option maxRecDepth 100000 in
theorem refNumberD_any (l : List UInt8) (w : World) (hl : l.length ≤ 1000000) :
    Calls Tryz.prog 37 #[.string (str l)] w fun e w' => e = .returned (endN (decV 18446744073709551615 l)) ∧ w' = w := by
  obtain ⟨s, HS, htl, hsz, hix⟩ := str_facts l
  have HX : Hid (∀ (k : Nat) (h : k < l.length) (w : World), (Instr.index 9 (.string s) (.int .i64 (k : Int))).run Tryz.prog w = .ok (.int .u8 ((l[k].toNat : Nat) : Int)) w) := hix
  rw [HS.out]
  clear hix
  by_cases h0 : l = []
  · subst h0
    rw [show decV 18446744073709551615 ([] : List UInt8) = none from by decide]
    clear HX
    go_enter Tryz.func37, Tryz.ntmps37
    go_wp2_with fail
    go_ret2
    exact ⟨rfl, rfl⟩
  have e0 : l.isEmpty = false := by simpa using h0
  have e0' : s.toList.isEmpty = false := by rw [htl]; exact e0
  by_cases h20 : 20 < l.length
  · rw [dec_long l h20]
    have g20 : (20 : Int) < (l.length : Int) := by omega
    clear HX
    go_enter Tryz.func37, Tryz.ntmps37
    go_wp2_with fail
    go_ret2
    exact ⟨rfl, rfl⟩
  have g20 : ¬ (20 : Int) < (l.length : Int) := by omega
  have hp : 0 < l.length := List.length_pos_iff.2 h0
  have x0 : ∀ w : World, (Instr.index 9 (.string s) (.int .i64 0)).run Tryz.prog w = .ok (.int .u8 ((l[0].toNat : Nat) : Int)) w := fun w => HX.out 0 hp w
  have hd : l.head? = some l[0] := by
    cases l with
    | nil => exact absurd rfl h0
    | cons c r => rfl
  have hb0 : l[0].toNat < 256 := UInt8.toNat_lt _
  by_cases hz : l[0].toNat = 48 ∧ 1 < l.length
  · have hN : decV 18446744073709551615 l = none := decV_bad _ l (by
      rintro (h | ⟨_, h⟩)
      · have h1 : l.length = 1 := by rw [h]; rfl
        omega
      · rw [hd] at h
        exact h (congrArg some (UInt8.toNat_inj.1 hz.1)))
    rw [hN]
    have g1 : (1 : Int) < (l.length : Int) := by omega
    have b0 : ((l[0].toNat : Int) == 48) = true := by simp; omega
    have e48 : l[0].toNat = 48 := hz.1
    rw [e48] at x0
    clear HX hN hz hd b0 e48 hb0
    go_enter Tryz.func37, Tryz.ntmps37
    go_wp2_with fail
    go_ret2
    exact ⟨rfl, rfl⟩
  have HV : Hid (decV 18446744073709551615 l = decFold 18446744073709551615 0 l) := decV_good _ l (by
    by_cases hc : l[0].toNat = 48
    · left
      have : l.length = 1 := by omega
      match l, this with
      | [c], _ => rw [show c = 48 from UInt8.toNat_inj.1 hc]
    · right
      refine ⟨h0, ?_⟩
      rw [hd]
      intro h
      exact hc (by have := Option.some.inj h; rw [this]; rfl))
  rw [HV.out]
  have ways : ((l[0].toNat : Int) == 48) = false ∨ (l[0].toNat = 48 ∧ ¬ (1 : Int) < (l.length : Int)) := by
    by_cases hc : l[0].toNat = 48
    · exact .inr ⟨hc, by omega⟩
    · exact .inl (by simp; omega)
  clear hz hd HV
  generalize l[0].toNat = c0 at *
  rcases ways with b0 | ⟨rfl, b1⟩
  all_goals
    go_enter Tryz.func37, Tryz.ntmps37
    go_wp2_with fail
    clear x0
    go_loop [4, 5] (fun n i => ∃ k q : Nat, k ≤ l.length ∧ i = .int .i64 (k : Int) ∧ n = .int .u64 (q : Int) ∧ q ≤ 18446744073709551615 ∧ decFold 18446744073709551615 0 (l.take k) = some q) (fun _ i => l.length - (intOf i).toNat)
    case atStart => exact ⟨0, 0, Nat.zero_le _, rfl, rfl, Nat.zero_le _, rfl⟩
    case round =>
      obtain ⟨k, q, hk, rfl, rfl, hq, hf⟩ := hrel
      by_cases hlt : k < l.length
      · have hlt' : (k : Int) < (l.length : Int) := by omega
        have hix := HX.out k hlt
        have hx : l.take (k + 1) = l.take k ++ [l[k]] := by rw [List.take_succ_eq_append_getElem hlt]
        have FS : Hid (decFold 18446744073709551615 0 (l.take (k + 1)) = decStep 18446744073709551615 q l[k].toNat) := by show _ = _; rw [hx, decFold_snoc, hf]; rfl
        have FN : Hid (decStep 18446744073709551615 q l[k].toNat = none → endN (decFold 18446744073709551615 0 l) = .tuple #[.int .u64 0, .bool false]) := fun h => by
          have h1 : decFold 18446744073709551615 0 (l.take (k + 1)) = none := by rw [FS.out, h]
          have h2 := decFold_none 18446744073709551615 _ (l.drop (k + 1)) 0 h1
          rw [List.take_append_drop] at h2
          rw [h2]; rfl
        have hb : l[k].toNat < 256 := l[k].toNat_lt
        generalize l[k].toNat = c at *
        clear hx hf
        by_cases d1 : 48 ≤ c ∧ c ≤ 57
        rotate_left
        · have HE : Hid (endN (decFold 18446744073709551615 0 l) = .tuple #[.int .u64 0, .bool false]) := FN.out (by unfold decStep; rw [if_neg (by intro h; exact d1 h.1)])
          have sp : ((c : Int) < 48) ∨ (¬ (c : Int) < 48 ∧ (57 : Int) < (c : Int)) := by omega
          clear d1 FN FS
          rcases sp with g1 | ⟨g1, g2⟩
          all_goals
            go_wp2_with fail
            go_ret2
            exact ⟨(congrArg Ending.returned HE.out).symm, rfl⟩
        have g1 : ¬ (c : Int) < 48 := by omega
        have g2 : ¬ (57 : Int) < (c : Int) := by omega
        have w1 : IntKind.u8.wrap ((c : Int) - 48) = (c : Int) - 48 := by rw [IntKind.wrap_u8]; omega
        have w2 : IntKind.u64.wrap ((c : Int) - 48) = (c : Int) - 48 := u64_wrap_id _ (by omega) (by omega)
        have w3 : IntKind.u64.wrap ((18446744073709551615 : Int) - ((c : Int) - 48)) = (18446744073709551615 : Int) - ((c : Int) - 48) := u64_wrap_id _ (by omega) (by omega)
        have w4 : IntKind.u64.wrap (((18446744073709551615 : Int) - ((c : Int) - 48)) / 10) = ((18446744073709551615 : Int) - ((c : Int) - 48)) / 10 := u64_wrap_id _ (by omega) (by omega)
        by_cases d2 : q ≤ (18446744073709551615 - (c - 48)) / 10
        rotate_left
        · have HE : Hid (endN (decFold 18446744073709551615 0 l) = .tuple #[.int .u64 0, .bool false]) := FN.out (by unfold decStep; rw [if_neg (by intro h; exact d2 h.2.2)])
          have g4 : ((18446744073709551615 : Int) - ((c : Int) - 48)) / 10 < (q : Int) := by omega
          clear d1 d2 FN FS
          go_wp2_with fail
          go_ret2
          exact ⟨(congrArg Ending.returned HE.out).symm, rfl⟩
        have FV : Hid (decFold 18446744073709551615 0 (l.take (k + 1)) = some (10 * q + (c - 48))) := by show _ = _; rw [FS.out]; unfold decStep; rw [if_pos ⟨d1, by omega, d2⟩]
        have g4 : ¬ ((18446744073709551615 : Int) - ((c : Int) - 48)) / 10 < (q : Int) := by omega
        have w5 : IntKind.u64.wrap ((q : Int) * 10) = (q : Int) * 10 := u64_wrap_id _ (by omega) (by omega)
        have w6 : IntKind.u64.wrap ((q : Int) * 10 + ((c : Int) - 48)) = (q : Int) * 10 + ((c : Int) - 48) := u64_wrap_id _ (by omega) (by omega)
        have hq' : 10 * q + (c - 48) ≤ 18446744073709551615 := by omega
        clear FN FS d2
        go_wp2_with fail
        exact ⟨⟨k + 1, 10 * q + (c - 48), by omega, by go_num, congrArg (Value.int .u64) (by omega), hq', FV.out⟩, by simp [intOf]; omega⟩
      · obtain rfl : k = l.length := by omega
        have hlt' : ¬ (l.length : Int) < (l.length : Int) := by omega
        rw [List.take_of_length_le (Nat.le_refl _)] at hf
        have HE : Hid (endN (decFold 18446744073709551615 0 l) = .tuple #[.int .u64 (q : Int), .bool true]) := by show _ = _; rw [hf]; rfl
        clear hf
        go_wp2_with fail
        go_ret2
        exact ⟨(congrArg Ending.returned HE.out).symm, rfl⟩
#print axioms refNumberD_any

set_option maxHeartbeats 1000000 in
set_option maxRecDepth 100000 in
theorem digitD_any (c : Nat) (w : World) (hc : c < 256) : Calls Tryz.prog 68 #[.int .u8 (c : Int)] w fun e w' => e = .returned (endN (hexC true c)) ∧ w' = w := by
  by_cases a1 : 48 ≤ c ∧ c ≤ 57
  · have g1 : (48 : Int) ≤ (c : Int) := by omega
    have g2 : (c : Int) ≤ 57 := by omega
    have w1 : IntKind.u8.wrap ((c : Int) - 48) = (c : Int) - 48 := by rw [IntKind.wrap_u8]; omega
    have w2 : IntKind.u64.wrap ((c : Int) - 48) = (c : Int) - 48 := u64_wrap_id _ (by omega) (by omega)
    have HE : Hid (endN (hexC true c) = .tuple #[.int .u64 ((c : Int) - 48), .bool true]) := by
      show _ = _; unfold hexC; rw [if_pos a1]; show Value.tuple #[.int .u64 ((c - 48 : Nat) : Int), .bool true] = _; rw [show ((c - 48 : Nat) : Int) = (c : Int) - 48 from by omega]
    clear a1
    go_enter Tryz.func68, Tryz.ntmps68
    go_wp2_with fail
    go_ret2
    exact ⟨(congrArg Ending.returned HE.out).symm, rfl⟩
  have n1 : (¬ (48 : Int) ≤ (c : Int)) ∨ ((48 : Int) ≤ (c : Int) ∧ ¬ (c : Int) ≤ 57) := by omega
  by_cases a2 : 97 ≤ c ∧ c ≤ 102
  · have g0 : (48 : Int) ≤ (c : Int) := by omega
    have g0' : ¬ (c : Int) ≤ 57 := by omega
    have g1 : (97 : Int) ≤ (c : Int) := by omega
    have g2 : (c : Int) ≤ 102 := by omega
    have w1 : IntKind.u8.wrap ((c : Int) - 97) = (c : Int) - 97 := by rw [IntKind.wrap_u8]; omega
    have w2 : IntKind.u64.wrap ((c : Int) - 97) = (c : Int) - 97 := u64_wrap_id _ (by omega) (by omega)
    have w3 : IntKind.u64.wrap ((c : Int) - 97 + 10) = (c : Int) - 97 + 10 := u64_wrap_id _ (by omega) (by omega)
    have HE : Hid (endN (hexC true c) = .tuple #[.int .u64 ((c : Int) - 97 + 10), .bool true]) := by
      show _ = _; unfold hexC; rw [if_neg a1, if_pos a2]; show Value.tuple #[.int .u64 ((c - 87 : Nat) : Int), .bool true] = _; rw [show ((c - 87 : Nat) : Int) = (c : Int) - 97 + 10 from by omega]
    clear a1 a2 n1
    go_enter Tryz.func68, Tryz.ntmps68
    go_wp2_with fail
    go_ret2
    exact ⟨(congrArg Ending.returned HE.out).symm, rfl⟩
  by_cases a3 : 65 ≤ c ∧ c ≤ 70
  · have g0 : (48 : Int) ≤ (c : Int) := by omega
    have g0' : ¬ (c : Int) ≤ 57 := by omega
    have g1' : ¬ (97 : Int) ≤ (c : Int) := by omega
    have g1 : (65 : Int) ≤ (c : Int) := by omega
    have g2 : (c : Int) ≤ 70 := by omega
    have w1 : IntKind.u8.wrap ((c : Int) - 65) = (c : Int) - 65 := by rw [IntKind.wrap_u8]; omega
    have w2 : IntKind.u64.wrap ((c : Int) - 65) = (c : Int) - 65 := u64_wrap_id _ (by omega) (by omega)
    have w3 : IntKind.u64.wrap ((c : Int) - 65 + 10) = (c : Int) - 65 + 10 := u64_wrap_id _ (by omega) (by omega)
    have HE : Hid (endN (hexC true c) = .tuple #[.int .u64 ((c : Int) - 65 + 10), .bool true]) := by
      show _ = _; unfold hexC; rw [if_neg a1, if_neg a2, if_pos ⟨rfl, a3⟩]; show Value.tuple #[.int .u64 ((c - 55 : Nat) : Int), .bool true] = _; rw [show ((c - 55 : Nat) : Int) = (c : Int) - 65 + 10 from by omega]
    clear a1 a2 a3 n1
    go_enter Tryz.func68, Tryz.ntmps68
    go_wp2_with fail
    go_ret2
    exact ⟨(congrArg Ending.returned HE.out).symm, rfl⟩
  · have HE : Hid (endN (hexC true c) = .tuple #[.int .u64 0, .bool false]) := by
      show _ = _; unfold hexC; rw [if_neg a1, if_neg a2, if_neg (by intro h; exact a3 h.2)]; rfl
    have n2 : (¬ (97 : Int) ≤ (c : Int)) ∨ ((97 : Int) ≤ (c : Int) ∧ ¬ (c : Int) ≤ 102) := by omega
    have n3 : (¬ (65 : Int) ≤ (c : Int)) ∨ ((65 : Int) ≤ (c : Int) ∧ ¬ (c : Int) ≤ 70) := by omega
    clear a1 a2 a3
    rcases n1 with p1 | ⟨p1, q1⟩ <;> rcases n2 with p2 | ⟨p2, q2⟩ <;> rcases n3 with p3 | ⟨p3, q3⟩
    all_goals
      go_enter Tryz.func68, Tryz.ntmps68
      go_wp2_with fail
      go_ret2
      exact ⟨(congrArg Ending.returned HE.out).symm, rfl⟩
#print axioms digitD_any

/-- What Hex tells. -/
def hexV (l : List UInt8) : Option Nat := if l = [] ∨ 16 < l.length then none else hexF true 0 l

set_option maxHeartbeats 4000000 in
set_option maxRecDepth 100000 in
theorem hexD_any (l : List UInt8) (w : World) : Calls Tryz.prog 40 #[.string (str l)] w fun e w' => e = .returned (endN (hexV l)) ∧ w' = w := by
  obtain ⟨s, HS, htl, hsz, hix⟩ := str_facts l
  have HX : Hid (∀ (k : Nat) (h : k < l.length) (w : World), (Instr.index 9 (.string s) (.int .i64 (k : Int))).run Tryz.prog w = .ok (.int .u8 ((l[k].toNat : Nat) : Int)) w) := hix
  rw [HS.out]
  clear hix
  by_cases h0 : l = []
  · subst h0
    rw [show hexV [] = none from rfl]
    clear HX
    go_enter Tryz.func40, Tryz.ntmps40
    go_wp2_with fail
    go_ret2
    exact ⟨rfl, rfl⟩
  have e0 : l.isEmpty = false := by simpa using h0
  have e0' : s.toList.isEmpty = false := by rw [htl]; exact e0
  by_cases h16 : 16 < l.length
  · rw [show hexV l = none from by unfold hexV; rw [if_pos (.inr h16)]]
    have g16 : (16 : Int) < (l.length : Int) := by omega
    clear HX
    go_enter Tryz.func40, Tryz.ntmps40
    go_wp2_with fail
    go_ret2
    exact ⟨rfl, rfl⟩
  have g16 : ¬ (16 : Int) < (l.length : Int) := by omega
  have HV : Hid (hexV l = hexF true 0 l) := by show _ = _; unfold hexV; rw [if_neg (by rintro (h | h); exact h0 h; exact h16 h)]
  rw [HV.out]
  clear HV
  go_enter Tryz.func40, Tryz.ntmps40
  go_wp2_with fail
  go_loop [4, 5] (fun n i => ∃ k q : Nat, k ≤ l.length ∧ i = .int .i64 (k : Int) ∧ n = .int .u64 (q : Int) ∧ q < 16 ^ k ∧ hexF true 0 (l.take k) = some q) (fun _ i => l.length - (intOf i).toNat)
  case atStart => exact ⟨0, 0, Nat.zero_le _, rfl, rfl, by decide, rfl⟩
  case round =>
    obtain ⟨k, q, hk, rfl, rfl, hq, hf⟩ := hrel
    by_cases hlt : k < l.length
    · have hlt' : (k : Int) < (l.length : Int) := by omega
      have hix := HX.out k hlt
      have hx : l.take (k + 1) = l.take k ++ [l[k]] := by rw [List.take_succ_eq_append_getElem hlt]
      have FS : Hid (hexF true 0 (l.take (k + 1)) = (hexC true l[k].toNat).bind fun d => some (16 * q + d)) := by show _ = _; rw [hx, hexF_snoc, hf]; rfl
      have FN : Hid (hexC true l[k].toNat = none → endN (hexF true 0 l) = .tuple #[.int .u64 0, .bool false]) := fun h => by
        have h1 : hexF true 0 (l.take (k + 1)) = none := by rw [FS.out, h]; rfl
        have h2 := hexF_none true _ (l.drop (k + 1)) 0 h1
        rw [List.take_append_drop] at h2
        rw [h2]; rfl
      have hb : l[k].toNat < 256 := l[k].toNat_lt
      have hq60 : q < 1152921504606846976 := by
        have h1 : 16 ^ k ≤ 16 ^ 15 := Nat.pow_le_pow_right (by decide) (by omega)
        have h2 : (16 : Nat) ^ 15 = 1152921504606846976 := rfl
        omega
      have hq' : ∀ d, d < 16 → 16 * q + d < 16 ^ (k + 1) := fun d hd => by rw [Nat.pow_succ]; omega
      have hdg := fun w => digitD_any l[k].toNat w hb
      have HLT : ∀ d, hexC true l[k].toNat = some d → d < 16 := fun d h => hexC_lt true _ d h
      generalize l[k].toNat = c at *
      clear hx hf
      cases hn : hexC true c with
      | none =>
        have HE : Hid (endN (hexF true 0 l) = .tuple #[.int .u64 0, .bool false]) := FN.out hn
        rw [hn] at hdg
        have HD : Hid (∀ w : World, Calls Tryz.prog 68 #[.int .u8 (c : Int)] w fun e w' => e = .returned (.tuple #[.int .u64 0, .bool false]) ∧ w' = w) := hdg
        clear hdg FN FS hn hq' hq60 HLT
        go_wp2_with fail
        refine (HD.out _).mono ?_
        rintro e w ⟨rfl, rfl⟩
        go_wp2_with fail
        go_ret2
        exact ⟨(congrArg Ending.returned HE.out).symm, rfl⟩
      | some d =>
        have hd := HLT d hn
        have FV : Hid (hexF true 0 (l.take (k + 1)) = some (16 * q + d)) := by show _ = _; rw [FS.out, hn]; rfl
        rw [hn] at hdg
        have HD : Hid (∀ w : World, Calls Tryz.prog 68 #[.int .u8 (c : Int)] w fun e w' => e = .returned (.tuple #[.int .u64 (d : Int), .bool true]) ∧ w' = w) := hdg
        have o4 := or4 q d hq60 hd
        have hqd := hq' d hd
        obtain ⟨r, hr⟩ : ∃ r, 16 * q + d = r := ⟨_, rfl⟩
        rw [hr] at o4 FV hqd
        clear hdg FN FS hn hq' hr HLT
        go_wp2_with fail
        refine (HD.out _).mono ?_
        rintro e w ⟨rfl, rfl⟩
        go_wp2_with fail
        exact ⟨⟨k + 1, r, by omega, by go_num, rfl, hqd, FV.out⟩, by simp [intOf]; omega⟩
    · obtain rfl : k = l.length := by omega
      have hlt' : ¬ (l.length : Int) < (l.length : Int) := by omega
      rw [List.take_of_length_le (Nat.le_refl _)] at hf
      have HE : Hid (endN (hexF true 0 l) = .tuple #[.int .u64 (q : Int), .bool true]) := by show _ = _; rw [hf]; rfl
      clear hf hq
      go_wp2_with fail
      go_ret2
      exact ⟨(congrArg Ending.returned HE.out).symm, rfl⟩
#print axioms hexD_any

/-- What minus tells. -/
def minT (l : List UInt8) : Value := if l.head? = some 45 then .tuple #[.string (str l.tail), .bool true] else .tuple #[.string (str l), .bool false]

set_option maxHeartbeats 1000000 in
set_option maxRecDepth 100000 in
theorem minusD_any (l : List UInt8) (w : World) : Calls Tryz.prog 64 #[.string (str l)] w fun e w' => e = .returned (minT l) ∧ w' = w := by
  have SF := slice_from l 1
  obtain ⟨s, HS, htl, hsz, hix⟩ := str_facts l
  unfold minT
  rw [HS.out] at SF ⊢
  cases l with
  | nil =>
    rw [if_neg (by simp)]
    clear SF hix
    go_enter Tryz.func64, Tryz.ntmps64
    go_wp2_with fail
    go_ret2
    exact ⟨rfl, rfl⟩
  | cons c r =>
    have sf := SF (by simp)
    have x0 : ∀ w : World, (Instr.index 9 (.string s) (.int .i64 0)).run Tryz.prog w = .ok (.int .u8 ((c.toNat : Nat) : Int)) w := fun w => hix 0 (by simp) w
    have sf' : ∀ w : World, (Instr.slice 9 (.string s) (some (.int .i64 1)) none none).run Tryz.prog w = .ok (.string (str r)) w := sf
    have gl : (0 : Int) < ((c :: r).length : Int) := by rw [List.length_cons]; omega
    clear hix SF sf
    by_cases hc : c = 45
    · subst hc
      rw [if_pos (by simp)]
      show Calls _ _ _ _ fun e w' => e = .returned (.tuple #[.string (str r), .bool true]) ∧ w' = w
      generalize str r = sr at *
      generalize (45 :: r).length = n at *
      go_enter Tryz.func64, Tryz.ntmps64
      go_wp2_with fail
      go_ret2
      exact ⟨rfl, rfl⟩
    · rw [if_neg (by simpa using hc)]
      have b : ((c.toNat : Int) == 45) = false := by
        simp
        intro h
        exact hc (UInt8.toNat_inj.1 (by show c.toNat = 45; omega))
      generalize str r = sr at *
      generalize (c :: r).length = n at *
      go_enter Tryz.func64, Tryz.ntmps64
      go_wp2_with fail
      go_ret2
      exact ⟨rfl, rfl⟩
#print axioms minusD_any
end Go.Proofs.YtkfmmpolcjbnbaaGreatDoor
namespace Go.Proofs.YtkfmmpolcjbnbaaGreatDoor
open Pl Go.RowKit

theorem cutU_skip (c : UInt8) : ∀ (a b : List UInt8), c ∉ a → cutU c (a ++ b) = (cutU c b).map fun p => (a ++ p.1, p.2)
  | [], b, _ => by cases h : cutU c b <;> simp [h]
  | z :: a, b, h => by
    have h1 : z ≠ c := fun e => h (by simp [e])
    have h2 : c ∉ a := fun e => h (by simp [e])
    simp only [List.cons_append, cutU, if_neg h1, cutU_skip c a b h2]
    cases cutU c b <;> simp

set_option maxHeartbeats 2000000 in
set_option maxRecDepth 100000 in
theorem cutD_any (c : UInt8) (l : List UInt8) (w : World) (hl : l.length ≤ 1000000) :
    Calls Tryz.prog 36 #[.string (str l), .int .u8 ((c.toNat : Nat) : Int)] w fun e w' => e = .returned (cutT c l) ∧ Below w.heap.size w w' := by
  have SF : Hid (∀ k, k ≤ l.length → ∀ w : World, (Instr.slice 9 (.string (str l)) (some (.int .i64 (k : Int))) none none).run Tryz.prog w = .ok (.string (str (l.drop k))) w) := fun k hk w => slice_from l k hk w
  have ST : Hid (∀ k, k ≤ l.length → ∀ w : World, (Instr.slice 9 (.string (str l)) none (some (.int .i64 (k : Int))) none).run Tryz.prog w = .ok (.string (str (l.take k))) w) := fun k hk w => by
    have hs : (str l).size = l.length := by unfold str; simp [ByteArray.size]
    rw [run_slice_string_h (P := Tryz.prog) w 9 (str l) Tryz.underlying9 .i64 _ (by omega) (by rw [hs]; omega)]
    congr 2
    apply ByteArray.ext
    simp [str, ByteArray.data_extract]
  obtain ⟨s, HS, htl, hsz, hix⟩ := str_facts l
  have HX : Hid (∀ (k : Nat) (h : k < l.length) (w : World), (Instr.index 9 (.string s) (.int .i64 (k : Int))).run Tryz.prog w = .ok (.int .u8 ((l[k].toNat : Nat) : Int)) w) := hix
  have CT : Hid (∀ k, k < l.length → c ∉ l.take k → l[k]? = some c → cutT c l = .tuple #[.string (str (l.take k)), .string (str (l.drop (k + 1))), .bool true]) := fun k hk hn hc => by
    have e : l = l.take k ++ c :: l.drop (k + 1) := by
      conv => lhs; rw [← List.take_append_drop k l, List.drop_eq_getElem_cons hk]
      rw [List.getElem?_eq_getElem hk] at hc
      rw [Option.some.inj hc]
    have := cutU_here c (l.take k) (l.drop (k + 1)) hn
    rw [← e] at this
    unfold cutT
    rw [this]
  have CN : Hid (c ∉ l → cutT c l = .tuple #[.string s, .string ⟨#[]⟩, .bool false]) := fun hn => by
    have := cutU_skip c l [] hn
    rw [List.append_nil] at this
    unfold cutT
    rw [this, ← HS.out]
    rfl
  rw [HS.out] at SF ST ⊢
  clear hix
  generalize cutT c l = R at *
  have hcb : c.toNat < 256 := c.toNat_lt
  go_enter Tryz.func36, Tryz.ntmps36
  go_wp2_with fail
  go_loop [7] (fun i => ∃ k : Nat, k ≤ l.length ∧ i = .int .i64 (k : Int) ∧ c ∉ l.take k) (fun i => l.length - (intOf i).toNat)
  case atStart => exact ⟨0, Nat.zero_le _, rfl, by simp⟩
  case round =>
    obtain ⟨k, hk, rfl, hn⟩ := hrel
    by_cases hlt : k < l.length
    · have hlt' : (k : Int) < (l.length : Int) := by omega
      have hix := HX.out k hlt
      by_cases hc : l[k] = c
      · have HE : Hid (R = .tuple #[.string (str (l.take k)), .string (str (l.drop (k + 1))), .bool true]) := CT.out k hlt hn (by rw [List.getElem?_eq_getElem hlt, hc])
        rw [hc] at hix
        have sf := SF.out (k + 1) hlt
        have st := ST.out k (by omega)
        rw [show ((k + 1 : Nat) : Int) = (k : Int) + 1 from by omega] at sf
        clear CT CN HX SF ST hn hc
        generalize str (l.take k) = s1 at *
        generalize str (l.drop (k + 1)) = s2 at *
        generalize c.toNat = cn at *
        go_wp2_with fail
        go_quiet (fail)
        go_wp2_with fail
        go_ret3
        exact ⟨congrArg Ending.returned HE.out.symm, below_drewN (Below.refl _ _) _⟩
      · have b : ((l[k].toNat : Int) == (c.toNat : Int)) = false := by
          simp
          intro h
          exact hc (UInt8.toNat_inj.1 (by omega))
        have hn' : c ∉ l.take (k + 1) := by
          rw [List.take_succ_eq_append_getElem hlt]
          intro h
          rcases List.mem_append.1 h with h | h
          · exact hn h
          · simp at h; exact hc h.symm
        have HN : Hid (c ∉ l.take (k + 1)) := hn'
        clear hn hn' hc
        generalize l[k].toNat = ck at *
        generalize c.toNat = cn at *
        go_wp2_with fail
        exact ⟨⟨k + 1, by omega, by go_num, HN.out⟩, by simp [intOf]; omega⟩
    · obtain rfl : k = l.length := by omega
      have HE : R = .tuple #[.string s, .string ⟨#[]⟩, .bool false] := CN.out (by rw [List.take_of_length_le (Nat.le_refl _)] at hn; exact hn)
      clear CT CN HX SF ST hn
      subst HE
      go_wp2_with fail
      go_ret3
      exact ⟨rfl, Below.refl _ _⟩
#print axioms cutD_any

set_option maxHeartbeats 2000000 in
set_option maxRecDepth 100000 in
theorem bytesD_any (n : Int) (size : Nat) (w : World) (h8 : size ≤ 8) :
    Calls Tryz.prog 38 #[.int .u64 n, .int .i64 (size : Int)] w fun e w' => (∃ a cap, e = .returned (.slice a size cap) ∧ Told w w' a size cap (bytesL n size)) ∧ Below w.heap.size w w' := by
  obtain ⟨i0, hi, hz0, hz1, hz2⟩ := info_parts info8
  have hs8 : (size : Int) ≤ 8 := by omega
  go_enter Tryz.func38, Tryz.ntmps38
  go_wp2_with fail
  go_loopw [5, 6] (fun v i wr => ∃ k : Nat, k ≤ size ∧ i = .int .i64 (k : Int) ∧ Below w.heap.size w wr ∧ wr.ownsRow w.heap.size 5 1 v k ((bytesL n k).map (Value.int .u8)))
    (fun _ i _ => size - (intOf i).toNat)
  case atStart => exact ⟨0, Nat.zero_le _, rfl, Below.refl _ _, World.ownsRow_nil _ _ _ _⟩
  case round =>
    obtain ⟨k, hk, rfl, hb, hown⟩ := hrel
    by_cases hlt : k < size
    · have hlt' : (k : Int) < (size : Int) := by omega
      have hk0 : (0 : Int) ≤ (k : Int) := by omega
      have BS : Hid (bytesL n (k + 1) = bytesL n k ++ [n / 2 ^ (8 * k) % 256]) := bytesL_snoc n k
      go_wp2_with (at_builtin; refine wpList_append_own _ rfl _ _ 23 rfl w.heap.size 5 i0 (.int .u8 0) 1 1 Tryz.underlying23 hi hz0 hz1 hz2 rfl (by decide) _ _ _ rfl (hown.alloc _) ⟨wr.heap.size, 0, none⟩ 1 1 [.int .u8 (n / 2 ^ (8 * k) % 256)] rfl rfl ?c1 ?c2 ?c3 ?c4 ?c5 ?_)
      case c1 =>
        intro j u hj
        match j, hj with
        | 0, hj => simp at hj; subst hj; simp [Addr.add]
      case c2 => intro u hu; simp at hu; subst hu; rfl
      case c3 => unfold maxLen; omega
      case c4 => omega
      case c5 => have := hb.size; simp; omega
      intro v' w2 hown' hgrow _
      go_wp2_with fail
      refine ⟨⟨k + 1, by omega, by go_num, (Below.al hb _).grown hgrow (by have := hb.size; simp; omega) (fun j hj => (hown.lt j hj).1), ?_⟩, by simp [intOf]; omega⟩
      rw [BS.out, List.map_append]
      exact hown'
    · obtain rfl : k = size := by omega
      obtain ⟨a, cap, rfl, ht⟩ := own_told hown (bytesL_oct n k) (bytesL_length n k)
      go_wp2_with fail
      go_ret
      exact ⟨⟨_, _, rfl, ht⟩, hb⟩
#print axioms bytesD_any
end Go.Proofs.YtkfmmpolcjbnbaaGreatDoor
namespace Go.Proofs.YtkfmmpolcjbnbaaGreatDoor
open Go.RowKit

/-- An operation of a region is taken. -/
theorem tk {P : Program} {md : Region.Mode} {ops : Array Oper} {Q : Exit → Act → World → Prop} {S : World → Prop} {oi : Oper} {fuel : Nat} {listed : Array Bool} {a : Act} {w : World} (i : Nat) (v : Value) (hi : ops[i]? = some oi) (hy : YieldsIf P ops S oi v a)
    (h : wpAnyH P md ops Q S fuel (listed.setIfInBounds i true) (a.put oi.dst v) w) (hs : Region.noSelect ops = true := by kernel_rfl) (hf : Region.free md ops listed i = true := by kernel_rfl) (hr : (Region.ready md ops listed).contains i = true := by kernel_rfl)
    (hQ : ∀ c a w, Q (.panic c) (a.put oi.dst v) w → Q (.panic c) a w := by exact fun _ _ _ h => h) (hS : S w := by assumption) : wpAnyH P md ops Q S (fuel + 1) listed a w := wpAnyH_take hi hs hf hr hQ hy hS h
theorem gA : type_of% @List.getElem_toArray := @List.getElem_toArray
theorem gS : type_of% @List.getElem_cons_succ := @List.getElem_cons_succ
theorem gZ : type_of% @List.getElem_cons_zero := @List.getElem_cons_zero
theorem sA : type_of% @List.setIfInBounds_toArray := @List.setIfInBounds_toArray
theorem sZ : type_of% @List.set_cons_zero := @List.set_cons_zero
theorem sS : type_of% @List.set_cons_succ := @List.set_cons_succ
end Go.Proofs.YtkfmmpolcjbnbaaGreatDoor
