/-
  The walks of must, at what is not right, and of readDecimal: decimal digits as a number that is at most that.
-/
import Derived.Test.YtkfmmpolcjbnbaaDoorFl2
namespace Go.Proofs.YtkfmmpolcjbnbaaDoor
open Pl Go.RowKit

/-- What a reader gives up with. -/
def bad : List PanicEntry := [{ v := .iface 9 (.string ⟨#[116, 121, 112, 101, 115, 58, 32, 97, 32, 116, 101, 120, 116, 32, 116, 104, 97, 116, 32, 105, 115, 32, 110, 111, 32, 118, 97, 108, 117, 101, 32, 111, 102, 32, 116, 104, 101, 32, 116, 121, 112, 101]⟩), recovered := false }]

theorem must_false (w : World) : Calls Tryd.prog 56 #[.bool false] w fun e w' => e = .panicked bad ∧ w' = w := by
  go_enter Tryd.func56, Tryd.ntmps56
  go_wp2
  exact ⟨rfl, rfl, rfl⟩

/-- A digit more of a number that is at most that; none: it is no digit, or too much. -/
def decStep (most n c : Nat) : Option Nat := if (48 ≤ c ∧ c ≤ 57) ∧ (c - 48 ≤ most ∧ n ≤ (most - (c - 48)) / 10) then some (10 * n + (c - 48)) else none
/-- Digits more. -/
def decFold (most : Nat) : Nat → List UInt8 → Option Nat
  | n, [] => some n
  | n, c :: l => (decStep most n c.toNat).bind fun m => decFold most m l
/-- The number that decimal digits without noughts ahead tell, at most that. -/
def decV (most : Nat) (l : List UInt8) : Option Nat := if l = [48] ∨ (l ≠ [] ∧ l.head? ≠ some 48) then decFold most 0 l else none

/-- How a reader of a number ends. -/
def endU : Option Nat → Ending
  | some n => .returned (.int .u64 (n : Int))
  | none => .panicked bad

theorem decFold_snoc (most : Nat) : ∀ (l : List UInt8) (n : Nat) (c : UInt8), decFold most n (l ++ [c]) = (decFold most n l).bind fun m => decStep most m c.toNat
  | [], n, c => by simp [decFold]
  | x :: l, n, c => by
    simp only [List.cons_append, decFold]
    cases decStep most n x.toNat with
    | none => rfl
    | some m => exact decFold_snoc most l m c
theorem decFold_none (most : Nat) : ∀ (l r : List UInt8) (n : Nat), decFold most n l = none → decFold most n (l ++ r) = none
  | [], r, n, h => by simp [decFold] at h
  | x :: l, r, n, h => by
    simp only [List.cons_append, decFold] at h ⊢
    cases hs : decStep most n x.toNat with
    | none => rfl
    | some m => rw [hs] at h; exact decFold_none most l r m h
theorem decStep_le (most n c m : Nat) (h : decStep most n c = some m) : m ≤ most := by
  unfold decStep at h
  split at h
  · simp at h; omega
  · simp at h
theorem decFold_le (most : Nat) : ∀ (l : List UInt8) (n m : Nat), n ≤ most → decFold most n l = some m → m ≤ most
  | [], n, m, hn, h => by simp [decFold] at h; omega
  | c :: l, n, m, hn, h => by
    simp only [decFold] at h
    cases hs : decStep most n c.toNat with
    | none => rw [hs] at h; simp at h
    | some q => rw [hs] at h; exact decFold_le most l q m (decStep_le most n c.toNat q hs) h

theorem index_run (l : List UInt8) (k : Nat) (h : k < l.length) (w : World) : (Instr.index 9 (.string (str l)) (.int .i64 (k : Int))).run Tryd.prog w = .ok (.int .u8 ((l[k].toNat : Nat) : Int)) w := by
  have hs : (str l).size = l.length := by unfold str; simp [ByteArray.size]
  simp [go_sem, hs, h]
  rfl

theorem str_facts (l : List UInt8) : ∃ s, Hid (str l = s) ∧ s.toList = l ∧ s.size = l.length ∧ (∀ (k : Nat) (h : k < l.length) (w : World), (Instr.index 9 (.string s) (.int .i64 (k : Int))).run Tryd.prog w = .ok (.int .u8 ((l[k].toNat : Nat) : Int)) w) :=
  ⟨str l, rfl, by rw [Lib.toList_data]; rfl, by unfold str; simp [ByteArray.size], fun k h w => index_run l k h w⟩

theorem decV_bad (most : Nat) (l : List UInt8) (h : ¬ (l = [48] ∨ (l ≠ [] ∧ l.head? ≠ some 48))) : decV most l = none := by unfold decV; rw [if_neg h]
theorem decV_good (most : Nat) (l : List UInt8) (h : l = [48] ∨ (l ≠ [] ∧ l.head? ≠ some 48)) : decV most l = decFold most 0 l := by unfold decV; rw [if_pos h]

set_option maxHeartbeats 4000000 in
set_option maxRecDepth 100000 in
theorem decimal_any (l : List UInt8) (most : Nat) (w : World) (hm : most < 18446744073709551616) (hl : l.length ≤ 1000000) :
    Calls Tryd.prog 58 #[.string (str l), .int .u64 (most : Int)] w fun e w' => e = endU (decV most l) ∧ w' = w := by
  obtain ⟨s, HS, htl, hsz, hix⟩ := str_facts l
  have HX : Hid (∀ (k : Nat) (h : k < l.length) (w : World), (Instr.index 9 (.string s) (.int .i64 (k : Int))).run Tryd.prog w = .ok (.int .u8 ((l[k].toNat : Nat) : Int)) w) := hix
  rw [HS.out]
  clear hix
  by_cases hg : l = [48] ∨ (l ≠ [] ∧ l.head? ≠ some 48)
  rotate_left
  · have HE : Hid (endU (decV most l) = .panicked bad) := by show _ = _; rw [decV_bad most l hg]; rfl
    rw [HE.out]
    cases l with
    | nil =>
      clear hg HX hsz
      go_enter Tryd.func58, Tryd.ntmps58
      go_wp2_with fail
      refine (must_false _).mono ?_
      rintro e w ⟨rfl, rfl⟩
      go_wp2_with fail
      exact ⟨rfl, rfl, rfl⟩
    | cons c r =>
      have hc : c = 48 := by
        rcases Classical.em (c = 48) with h | h
        · exact h
        · exact absurd (.inr ⟨by simp, by simpa using h⟩) hg
      subst hc
      cases r with
      | nil => exact absurd (.inl rfl) hg
      | cons y r =>
      have x0 := HX.out 0 (by simp)
      have x0' : ∀ w : World, (Instr.index 9 (.string s) (.int .i64 0)).run Tryd.prog w = .ok (.int .u8 48) w := x0
      clear hg HX hsz x0
      go_enter Tryd.func58, Tryd.ntmps58
      go_wp2_with fail
      refine (must_false _).mono ?_
      rintro e w ⟨rfl, rfl⟩
      go_wp2_with fail
      exact ⟨rfl, rfl, rfl⟩
  have HV : Hid (decV most l = decFold most 0 l) := decV_good most l hg
  rw [HV.out]
  have step : (l = [48]) ∨ (¬ l = [48] ∧ ∃ c r, l = c :: r ∧ c ≠ 48) := by
    by_cases h : l = [48]
    · exact .inl h
    · refine .inr ⟨h, ?_⟩
      rcases hg with h' | ⟨h1, h2⟩
      · exact absurd h' h
      · cases l with
        | nil => exact absurd rfl h1
        | cons c r => exact ⟨c, r, rfl, by simpa using h2⟩
  clear hg
  rcases step with h | ⟨h, c, r, hcr, hc⟩
  · go_enter Tryd.func58, Tryd.ntmps58
    go_wp2_with fail
    refine (must_true _).mono ?_
    rintro e w ⟨rfl, rfl⟩
    clear h
    go_wp2_with fail
    go_loop [5, 22] (fun n i => ∃ k q : Nat, k ≤ l.length ∧ i = .int .i64 (k : Int) ∧ n = .int .u64 (q : Int) ∧ q ≤ most ∧ decFold most 0 (l.take k) = some q) (fun _ i => l.length - (intOf i).toNat)
    case atStart => exact ⟨0, 0, Nat.zero_le _, rfl, rfl, Nat.zero_le _, rfl⟩
    case round =>
      obtain ⟨k, q, hk, rfl, rfl, hq, hf⟩ := hrel
      by_cases hlt : k < l.length
      · have hlt' : (k : Int) < (l.length : Int) := by omega
        have hix := HX.out k hlt
        have hx : l.take (k + 1) = l.take k ++ [l[k]] := by rw [List.take_succ_eq_append_getElem hlt]
        have FS : Hid (decFold most 0 (l.take (k + 1)) = decStep most q l[k].toNat) := by show _ = _; rw [hx, decFold_snoc, hf]; rfl
        have FN : Hid (decStep most q l[k].toNat = none → endU (decFold most 0 l) = .panicked bad) := fun h => by
          have h1 : decFold most 0 (l.take (k + 1)) = none := by rw [FS.out, h]
          have h2 := decFold_none most _ (l.drop (k + 1)) 0 h1
          rw [List.take_append_drop] at h2
          rw [h2]; rfl
        have hb : l[k].toNat < 256 := l[k].toNat_lt
        generalize l[k].toNat = c at *
        clear hx hf
        by_cases d1 : 48 ≤ c ∧ c ≤ 57
        rotate_left
        · have HE : Hid (endU (decFold most 0 l) = .panicked bad) := FN.out (by unfold decStep; rw [if_neg (by intro h; exact d1 h.1)])
          have sp : (¬ (48 : Int) ≤ (c : Int)) ∨ ((48 : Int) ≤ (c : Int) ∧ ¬ (c : Int) ≤ 57) := by omega
          clear d1 FN FS
          rcases sp with g1 | ⟨g1, g2⟩
          all_goals
            go_wp2_with fail
            refine (must_false _).mono ?_
            rintro e w ⟨rfl, rfl⟩
            go_wp2_with fail
            first | exact ⟨rfl, HE.out.symm, rfl⟩ | exact ⟨HE.out.symm, rfl, rfl⟩ | exact ⟨⟨HE.out.symm, rfl⟩, rfl⟩
        have g1 : (48 : Int) ≤ (c : Int) := by omega
        have g2 : (c : Int) ≤ 57 := by omega
        have w1 : IntKind.u8.wrap ((c : Int) - 48) = (c : Int) - 48 := by rw [IntKind.wrap_u8]; omega
        have w2 : IntKind.u64.wrap ((c : Int) - 48) = (c : Int) - 48 := u64_wrap_id _ (by omega) (by omega)
        by_cases d2 : c - 48 ≤ most ∧ q ≤ (most - (c - 48)) / 10
        rotate_left
        · have HE : Hid (endU (decFold most 0 l) = .panicked bad) := FN.out (by unfold decStep; rw [if_neg (by intro h; exact d2 h.2)])
          have sp : (¬ (c : Int) - 48 ≤ (most : Int)) ∨ ((c : Int) - 48 ≤ (most : Int) ∧ IntKind.u64.wrap ((most : Int) - ((c : Int) - 48)) = (most : Int) - ((c : Int) - 48) ∧ IntKind.u64.wrap (((most : Int) - ((c : Int) - 48)) / 10) = ((most : Int) - ((c : Int) - 48)) / 10 ∧ ¬ (q : Int) ≤ ((most : Int) - ((c : Int) - 48)) / 10) := by
            rcases Int.lt_or_le (most : Int) ((c : Int) - 48) with h | h
            · exact .inl (by omega)
            · exact .inr ⟨h, u64_wrap_id _ (by omega) (by omega), u64_wrap_id _ (by omega) (by omega), by omega⟩
          clear d1 d2 FN FS
          rcases sp with g3 | ⟨g3, w3, w4, g4⟩
          all_goals
            go_wp2_with fail
            refine (must_true _).mono ?_
            rintro e w ⟨rfl, rfl⟩
            go_wp2_with fail
            first
              | refine (must_false _).mono ?_
              | (rw [show decide ((q : Int) ≤ ((most : Int) - ((c : Int) - 48)) / 10) = false from by simp; omega]; refine (must_false _).mono ?_)
            rintro e w ⟨rfl, rfl⟩
            go_wp2_with fail
            first | exact ⟨rfl, HE.out.symm, rfl⟩ | exact ⟨HE.out.symm, rfl, rfl⟩ | exact ⟨⟨HE.out.symm, rfl⟩, rfl⟩
        have FV : Hid (decFold most 0 (l.take (k + 1)) = some (10 * q + (c - 48))) := by show _ = _; rw [FS.out]; unfold decStep; rw [if_pos ⟨d1, d2⟩]
        have g3 : (c : Int) - 48 ≤ (most : Int) := by omega
        have w3 : IntKind.u64.wrap ((most : Int) - ((c : Int) - 48)) = (most : Int) - ((c : Int) - 48) := u64_wrap_id _ (by omega) (by omega)
        have w4 : IntKind.u64.wrap (((most : Int) - ((c : Int) - 48)) / 10) = ((most : Int) - ((c : Int) - 48)) / 10 := u64_wrap_id _ (by omega) (by omega)
        have g4 : (q : Int) ≤ ((most : Int) - ((c : Int) - 48)) / 10 := by omega
        have w5 : IntKind.u64.wrap (10 * (q : Int)) = 10 * (q : Int) := u64_wrap_id _ (by omega) (by omega)
        have w6 : IntKind.u64.wrap (10 * (q : Int) + ((c : Int) - 48)) = 10 * (q : Int) + ((c : Int) - 48) := u64_wrap_id _ (by omega) (by omega)
        have hq' : 10 * q + (c - 48) ≤ most := by omega
        clear FN FS d2
        go_wp2_with fail
        refine (must_true _).mono ?_
        rintro e w ⟨rfl, rfl⟩
        go_wp2_with fail
        refine (must_true _).mono ?_
        rintro e w ⟨rfl, rfl⟩
        go_wp2_with fail
        exact ⟨⟨k + 1, 10 * q + (c - 48), by omega, by go_num, congrArg (Value.int .u64) (by omega), hq', FV.out⟩, by simp [intOf]; omega⟩
      · obtain rfl : k = l.length := by omega
        have hlt' : ¬ (l.length : Int) < (l.length : Int) := by omega
        rw [List.take_of_length_le (Nat.le_refl _)] at hf
        have HE : Hid (endU (decFold most 0 l) = .returned (.int .u64 (q : Int))) := by show _ = _; rw [hf]; rfl
        clear hf
        go_wp2_with fail
        go_ret
        exact ⟨HE.out.symm, rfl⟩
  · have x0 := HX.out 0 (by rw [hcr]; simp)
    have e0 : l[0]'(by rw [hcr]; simp) = c := by simp [hcr]
    have x0' : ∀ w : World, (Instr.index 9 (.string s) (.int .i64 0)).run Tryd.prog w = .ok (.int .u8 (c.toNat : Int)) w := fun w => by have := x0 w; rw [e0] at this; exact this
    have c48 : ((c.toNat : Int) != 48) = true := by
      simp
      intro h
      exact hc (by have : c.toNat = 48 := by omega
                   exact UInt8.toNat_inj.1 this)
    have hne : ¬ l = [] := by rw [hcr]; simp
    clear hcr e0 x0 hc
    go_enter Tryd.func58, Tryd.ntmps58
    go_wp2_with fail
    rw [show (l == [48] || !l.isEmpty) = true from by cases l with | nil => exact absurd rfl hne | cons => simp]
    refine (must_true _).mono ?_
    rintro e w ⟨rfl, rfl⟩
    go_wp2_with fail
    go_loop [5, 22] (fun n i => ∃ k q : Nat, k ≤ l.length ∧ i = .int .i64 (k : Int) ∧ n = .int .u64 (q : Int) ∧ q ≤ most ∧ decFold most 0 (l.take k) = some q) (fun _ i => l.length - (intOf i).toNat)
    case atStart => exact ⟨0, 0, Nat.zero_le _, rfl, rfl, Nat.zero_le _, rfl⟩
    case round =>
      obtain ⟨k, q, hk, rfl, rfl, hq, hf⟩ := hrel
      by_cases hlt : k < l.length
      · have hlt' : (k : Int) < (l.length : Int) := by omega
        have hix := HX.out k hlt
        have hx : l.take (k + 1) = l.take k ++ [l[k]] := by rw [List.take_succ_eq_append_getElem hlt]
        have FS : Hid (decFold most 0 (l.take (k + 1)) = decStep most q l[k].toNat) := by show _ = _; rw [hx, decFold_snoc, hf]; rfl
        have FN : Hid (decStep most q l[k].toNat = none → endU (decFold most 0 l) = .panicked bad) := fun h => by
          have h1 : decFold most 0 (l.take (k + 1)) = none := by rw [FS.out, h]
          have h2 := decFold_none most _ (l.drop (k + 1)) 0 h1
          rw [List.take_append_drop] at h2
          rw [h2]; rfl
        have hb : l[k].toNat < 256 := l[k].toNat_lt
        generalize l[k].toNat = c at *
        clear hx hf
        by_cases d1 : 48 ≤ c ∧ c ≤ 57
        rotate_left
        · have HE : Hid (endU (decFold most 0 l) = .panicked bad) := FN.out (by unfold decStep; rw [if_neg (by intro h; exact d1 h.1)])
          have sp : (¬ (48 : Int) ≤ (c : Int)) ∨ ((48 : Int) ≤ (c : Int) ∧ ¬ (c : Int) ≤ 57) := by omega
          clear d1 FN FS
          rcases sp with g1 | ⟨g1, g2⟩
          all_goals
            go_wp2_with fail
            refine (must_false _).mono ?_
            rintro e w ⟨rfl, rfl⟩
            go_wp2_with fail
            first | exact ⟨rfl, HE.out.symm, rfl⟩ | exact ⟨HE.out.symm, rfl, rfl⟩ | exact ⟨⟨HE.out.symm, rfl⟩, rfl⟩
        have g1 : (48 : Int) ≤ (c : Int) := by omega
        have g2 : (c : Int) ≤ 57 := by omega
        have w1 : IntKind.u8.wrap ((c : Int) - 48) = (c : Int) - 48 := by rw [IntKind.wrap_u8]; omega
        have w2 : IntKind.u64.wrap ((c : Int) - 48) = (c : Int) - 48 := u64_wrap_id _ (by omega) (by omega)
        by_cases d2 : c - 48 ≤ most ∧ q ≤ (most - (c - 48)) / 10
        rotate_left
        · have HE : Hid (endU (decFold most 0 l) = .panicked bad) := FN.out (by unfold decStep; rw [if_neg (by intro h; exact d2 h.2)])
          have sp : (¬ (c : Int) - 48 ≤ (most : Int)) ∨ ((c : Int) - 48 ≤ (most : Int) ∧ IntKind.u64.wrap ((most : Int) - ((c : Int) - 48)) = (most : Int) - ((c : Int) - 48) ∧ IntKind.u64.wrap (((most : Int) - ((c : Int) - 48)) / 10) = ((most : Int) - ((c : Int) - 48)) / 10 ∧ ¬ (q : Int) ≤ ((most : Int) - ((c : Int) - 48)) / 10) := by
            rcases Int.lt_or_le (most : Int) ((c : Int) - 48) with h | h
            · exact .inl (by omega)
            · exact .inr ⟨h, u64_wrap_id _ (by omega) (by omega), u64_wrap_id _ (by omega) (by omega), by omega⟩
          clear d1 d2 FN FS
          rcases sp with g3 | ⟨g3, w3, w4, g4⟩
          all_goals
            go_wp2_with fail
            refine (must_true _).mono ?_
            rintro e w ⟨rfl, rfl⟩
            go_wp2_with fail
            first
              | refine (must_false _).mono ?_
              | (rw [show decide ((q : Int) ≤ ((most : Int) - ((c : Int) - 48)) / 10) = false from by simp; omega]; refine (must_false _).mono ?_)
            rintro e w ⟨rfl, rfl⟩
            go_wp2_with fail
            first | exact ⟨rfl, HE.out.symm, rfl⟩ | exact ⟨HE.out.symm, rfl, rfl⟩ | exact ⟨⟨HE.out.symm, rfl⟩, rfl⟩
        have FV : Hid (decFold most 0 (l.take (k + 1)) = some (10 * q + (c - 48))) := by show _ = _; rw [FS.out]; unfold decStep; rw [if_pos ⟨d1, d2⟩]
        have g3 : (c : Int) - 48 ≤ (most : Int) := by omega
        have w3 : IntKind.u64.wrap ((most : Int) - ((c : Int) - 48)) = (most : Int) - ((c : Int) - 48) := u64_wrap_id _ (by omega) (by omega)
        have w4 : IntKind.u64.wrap (((most : Int) - ((c : Int) - 48)) / 10) = ((most : Int) - ((c : Int) - 48)) / 10 := u64_wrap_id _ (by omega) (by omega)
        have g4 : (q : Int) ≤ ((most : Int) - ((c : Int) - 48)) / 10 := by omega
        have w5 : IntKind.u64.wrap (10 * (q : Int)) = 10 * (q : Int) := u64_wrap_id _ (by omega) (by omega)
        have w6 : IntKind.u64.wrap (10 * (q : Int) + ((c : Int) - 48)) = 10 * (q : Int) + ((c : Int) - 48) := u64_wrap_id _ (by omega) (by omega)
        have hq' : 10 * q + (c - 48) ≤ most := by omega
        clear FN FS d2
        go_wp2_with fail
        refine (must_true _).mono ?_
        rintro e w ⟨rfl, rfl⟩
        go_wp2_with fail
        refine (must_true _).mono ?_
        rintro e w ⟨rfl, rfl⟩
        go_wp2_with fail
        exact ⟨⟨k + 1, 10 * q + (c - 48), by omega, by go_num, congrArg (Value.int .u64) (by omega), hq', FV.out⟩, by simp [intOf]; omega⟩
      · obtain rfl : k = l.length := by omega
        have hlt' : ¬ (l.length : Int) < (l.length : Int) := by omega
        rw [List.take_of_length_le (Nat.le_refl _)] at hf
        have HE : Hid (endU (decFold most 0 l) = .returned (.int .u64 (q : Int))) := by show _ = _; rw [hf]; rfl
        clear hf
        go_wp2_with fail
        go_ret
        exact ⟨HE.out.symm, rfl⟩
#print axioms decimal_any
end Go.Proofs.YtkfmmpolcjbnbaaDoor
