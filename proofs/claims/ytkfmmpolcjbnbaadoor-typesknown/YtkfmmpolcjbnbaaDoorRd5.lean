/-
  The walk of readQuoted: one byte of a quoted text.
-/
import Derived.Test.YtkfmmpolcjbnbaaDoorRd4
import Derived.Test.YtkfmmpolcjbnbaaDoorQuo
namespace Go.Proofs.YtkfmmpolcjbnbaaDoor
open Pl Go.RowKit

/-- The byte at a place, as a number. -/
abbrev ch (l : List UInt8) (i : Nat) : Nat := (l.getD i 0).toNat
/-- The byte that the inside of quotes begins with, and how many bytes of the text it takes. -/
def quoR (l : List UInt8) : Option (Nat × Nat) :=
  if ch l 0 ≠ 92 then (if (32 ≤ ch l 0 ∧ ch l 0 ≤ 126) ∧ ch l 0 ≠ 34 then some (ch l 0, 1) else none)
  else if 2 ≤ l.length ∧ (ch l 1 = 34 ∨ ch l 1 = 92) then some (ch l 1, 2)
  else if 4 ≤ l.length ∧ ch l 1 = 120 then (hexF false 0 ((l.drop 2).take 2)).bind fun n => if 32 ≤ n ∧ n ≤ 126 then none else some (n, 4)
  else none
/-- How readQuoted ends. -/
def endQ : Option (Nat × Nat) → Ending
  | some (c, u) => .returned (.tuple #[.int .u8 (c : Int), .int .i64 (u : Int)])
  | none => .panicked bad

theorem hexF2_lt (g : Bool) (l : List UInt8) (n : Nat) (hl : l.length ≤ 2) (h : hexF g 0 l = some n) : n < 256 := by
  match l, hl with
  | [], _ => simp [hexF] at h; omega
  | [a], _ =>
    simp only [hexF] at h
    cases ha : hexC g a.toNat with
    | none => rw [ha] at h; simp at h
    | some d => rw [ha] at h; simp at h; have := hexC_lt g _ _ ha; omega
  | [a, b], _ =>
    simp only [hexF] at h
    cases ha : hexC g a.toNat with
    | none => rw [ha] at h; simp at h
    | some d =>
      rw [ha] at h
      cases hb : hexC g b.toNat with
      | none => rw [hb] at h; simp at h
      | some e => rw [hb] at h; simp at h; have := hexC_lt g _ _ ha; have := hexC_lt g _ _ hb; omega

theorem slice_str (l : List UInt8) (a b : Nat) (hab : a ≤ b) (hb : b ≤ l.length) (w : World) : (Instr.slice 9 (.string (str l)) (some (.int .i64 (a : Int))) (some (.int .i64 (b : Int))) none).run Tryd.prog w = .ok (.string (str ((l.drop a).take (b - a)))) w := by
  have hs : (str l).size = l.length := by unfold str; simp [ByteArray.size]
  rw [run_slice_string w 9 _ .i64 .i64 _ _ Tryd.underlying9 (by omega) (by omega) (by rw [hs]; omega)]
  congr 2
  apply ByteArray.ext
  simp [str, ByteArray.data_extract]

theorem ch_at (l : List UInt8) (k : Nat) (h : k < l.length) : l[k].toNat = ch l k := by simp [ch, List.getD_eq_getElem?_getD, h]

set_option maxHeartbeats 4000000 in
set_option maxRecDepth 100000 in
theorem quotedRd_any (l : List UInt8) (w : World) (hne : l ≠ []) (hl : l.length ≤ 1000000) :
    Calls Tryd.prog 65 #[.string (str l)] w fun e w' => e = endQ (quoR l) ∧ w' = w := by
  have h0 : 0 < l.length := List.length_pos_iff.2 hne
  have SL : Hid (∀ (h : 4 ≤ l.length) (w : World), (Instr.slice 9 (.string (str l)) (some (.int .i64 2)) (some (.int .i64 4)) none).run Tryd.prog w = .ok (.string (str ((l.drop 2).take 2))) w) := fun h w => slice_str l 2 4 (by decide) h w
  have HH : Hid (∀ w : World, Calls Tryd.prog 59 #[.string (str ((l.drop 2).take 2)), .bool false] w fun e w' => e = endU (hexF false 0 ((l.drop 2).take 2)) ∧ w' = w) := fun w => hexRd_any false _ w (by simp; omega)
  obtain ⟨s, HS, htl, hsz, hix⟩ := str_facts l
  have x0 : ∀ w : World, (Instr.index 9 (.string s) (.int .i64 0)).run Tryd.prog w = .ok (.int .u8 ((ch l 0 : Nat) : Int)) w := fun w => by rw [← ch_at l 0 h0]; exact hix 0 h0 w
  have X1 : Hid (∀ (h : 1 < l.length) (w : World), (Instr.index 9 (.string s) (.int .i64 1)).run Tryd.prog w = .ok (.int .u8 ((ch l 1 : Nat) : Int)) w) := fun h w => by rw [← ch_at l 1 h]; exact hix 1 h w
  rw [HS.out] at SL ⊢
  obtain ⟨q, HQ⟩ : ∃ q, Hid (str ((l.drop 2).take 2) = q) := ⟨_, rfl⟩
  rw [HQ.out] at HH SL
  have hb0 : ch l 0 < 256 := UInt8.toNat_lt _
  have hb1 : ch l 1 < 256 := UInt8.toNat_lt _
  obtain ⟨R, QR⟩ : ∃ R, Hid (R = quoR l) := ⟨_, rfl⟩
  rw [← QR.out]
  unfold quoR at QR
  have NB : Hid (∀ n, hexF false 0 ((l.drop 2).take 2) = some n → n < 256) := fun n hn => hexF2_lt false _ n (by simp; omega) hn
  generalize hexF false 0 ((l.drop 2).take 2) = hx at *
  generalize ch l 0 = c0 at *
  generalize ch l 1 = c1 at *
  clear hix htl HQ HS hne
  by_cases a0 : c0 ≠ 92
  · have b0 : ((c0 : Int) != 92) = true := by simp; omega
    by_cases a1 : 32 ≤ c0 ∧ c0 ≤ 126
    · have g1 : (32 : Int) ≤ (c0 : Int) := by omega
      have g2 : (c0 : Int) ≤ 126 := by omega
      by_cases a2 : c0 ≠ 34
      · have b2 : ((c0 : Int) != 34) = true := by simp; omega
        rw [show R = some (c0, 1) from by rw [QR.out, if_pos a0, if_pos ⟨a1, a2⟩]]
        clear QR SL HH X1 NB a0 a1 a2
        go_enter Tryd.func65, Tryd.ntmps65
        go_wp2_with fail
        refine (isPlain_any _ _).mono ?_
        rintro e w ⟨rfl, rfl⟩
        rw [decide_eq_true g1, decide_eq_true g2]
        go_wp2_with fail
        refine (must_true _).mono ?_
        rintro e w ⟨rfl, rfl⟩
        go_wp2_with fail
        go_ret2
        exact ⟨rfl, rfl⟩
      · obtain rfl : c0 = 34 := by omega
        rw [show R = none from by rw [QR.out, if_pos a0, if_neg (by intro h; exact a2 h.2)]]
        clear QR SL HH X1 NB a0 a1 a2
        go_enter Tryd.func65, Tryd.ntmps65
        go_wp2_with fail
        refine (isPlain_any _ _).mono ?_
        rintro e w ⟨rfl, rfl⟩
        go_wp2_with fail
        refine (must_false _).mono ?_
        rintro e w ⟨rfl, rfl⟩
        go_wp2_with fail
        exact ⟨rfl, rfl, rfl⟩
    · have g1 : (decide ((32 : Int) ≤ (c0 : Int)) && decide ((c0 : Int) ≤ 126)) = false := by simp; omega
      rw [show R = none from by rw [QR.out, if_pos a0, if_neg (by intro h; exact a1 h.1)]]
      clear QR SL HH X1 NB a0 a1
      go_enter Tryd.func65, Tryd.ntmps65
      go_wp2_with fail
      refine (isPlain_any _ _).mono ?_
      rintro e w ⟨rfl, rfl⟩
      rw [g1]
      clear g1
      go_wp2_with fail
      refine (must_false _).mono ?_
      rintro e w ⟨rfl, rfl⟩
      go_wp2_with fail
      exact ⟨rfl, rfl, rfl⟩
  · obtain rfl : c0 = 92 := by omega
    rw [if_neg a0] at QR
    clear a0 hb0
    by_cases a1 : 2 ≤ l.length
    rotate_left
    · have g1 : ¬ (2 : Int) ≤ (l.length : Int) := by omega
      have g2 : ¬ (4 : Int) ≤ (l.length : Int) := by omega
      rw [show R = none from by rw [QR.out, if_neg (by intro h; exact a1 h.1), if_neg (by omega)]]
      clear QR SL HH X1 NB a1
      go_enter Tryd.func65, Tryd.ntmps65
      go_wp2_with fail
      refine (must_false _).mono ?_
      rintro e w ⟨rfl, rfl⟩
      go_wp2_with fail
      exact ⟨rfl, rfl, rfl⟩
    have g1 : (2 : Int) ≤ (l.length : Int) := by omega
    have x1 := X1.out (by omega)
    by_cases a2 : c1 = 34 ∨ c1 = 92
    · rw [show R = some (c1, 2) from by rw [QR.out, if_pos ⟨a1, a2⟩]]
      clear QR SL HH X1 NB a1
      rcases a2 with rfl | rfl
      all_goals
        go_enter Tryd.func65, Tryd.ntmps65
        go_wp2_with fail
        go_ret2
        exact ⟨rfl, rfl⟩
    have b1 : ((c1 : Int) == 34) = false := by simp; omega
    have b2 : ((c1 : Int) == 92) = false := by simp; omega
    rw [if_neg (by intro h; exact a2 h.2)] at QR
    clear a2 X1
    by_cases a3 : 4 ≤ l.length
    rotate_left
    · have g2 : ¬ (4 : Int) ≤ (l.length : Int) := by omega
      rw [show R = none from by rw [QR.out, if_neg (by intro h; exact a3 h.1)]]
      clear QR SL HH NB a1 a3
      go_enter Tryd.func65, Tryd.ntmps65
      go_wp2_with fail
      refine (must_false _).mono ?_
      rintro e w ⟨rfl, rfl⟩
      go_wp2_with fail
      exact ⟨rfl, rfl, rfl⟩
    have g2 : (4 : Int) ≤ (l.length : Int) := by omega
    have sl := SL.out a3
    by_cases a4 : c1 = 120
    rotate_left
    · have b3 : ((c1 : Int) == 120) = false := by simp; omega
      rw [show R = none from by rw [QR.out, if_neg (by intro h; exact a4 h.2)]]
      clear QR SL HH NB a1 a3 a4
      go_enter Tryd.func65, Tryd.ntmps65
      go_wp2_with fail
      refine (must_false _).mono ?_
      rintro e w ⟨rfl, rfl⟩
      go_wp2_with fail
      exact ⟨rfl, rfl, rfl⟩
    rw [if_pos ⟨a3, a4⟩] at QR
    subst a4
    clear SL a1 a3 b1 b2
    cases hx with
    | none =>
      have HD : Hid (∀ w : World, Calls Tryd.prog 59 #[.string q, .bool false] w fun e w' => e = .panicked bad ∧ w' = w) := HH
      rw [show R = none from by rw [QR.out]; rfl]
      clear QR HH NB
      go_enter Tryd.func65, Tryd.ntmps65
      go_wp2_with fail
      refine (must_true _).mono ?_
      rintro e w ⟨rfl, rfl⟩
      go_wp2_with fail
      refine (HD.out _).mono ?_
      rintro e w ⟨rfl, rfl⟩
      go_wp2_with fail
      exact ⟨rfl, rfl, rfl⟩
    | some n =>
      have HD : Hid (∀ w : World, Calls Tryd.prog 59 #[.string q, .bool false] w fun e w' => e = .returned (.int .u64 (n : Int)) ∧ w' = w) := HH
      have hn : n < 256 := NB.out n rfl
      have wn : IntKind.u8.wrap (n : Int) = (n : Int) := by rw [IntKind.wrap_u8]; omega
      have wm : (n : Int) % 256 = (n : Int) := by omega
      by_cases a5 : 32 ≤ n ∧ n ≤ 126
      · have g5 : (decide ((32 : Int) ≤ (n : Int)) && decide ((n : Int) ≤ 126)) = true := by simp; omega
        rw [show R = none from by rw [QR.out]; show (if 32 ≤ n ∧ n ≤ 126 then none else some (n, 4)) = none; rw [if_pos a5]]
        clear QR HH NB a5
        go_enter Tryd.func65, Tryd.ntmps65
        go_wp2_with fail
        refine (must_true _).mono ?_
        rintro e w ⟨rfl, rfl⟩
        go_wp2_with fail
        refine (HD.out _).mono ?_
        rintro e w ⟨rfl, rfl⟩
        go_wp2_with fail
        refine (isPlain_any _ _).mono ?_
        rintro e w ⟨rfl, rfl⟩
        rw [g5]
        clear g5
        go_wp2_with fail
        refine (must_false _).mono ?_
        rintro e w ⟨rfl, rfl⟩
        go_wp2_with fail
        exact ⟨rfl, rfl, rfl⟩
      · have g5 : (decide ((32 : Int) ≤ (n : Int)) && decide ((n : Int) ≤ 126)) = false := by simp; omega
        rw [show R = some (n, 4) from by rw [QR.out]; show (if 32 ≤ n ∧ n ≤ 126 then none else some (n, 4)) = some (n, 4); rw [if_neg a5]]
        clear QR HH NB a5
        go_enter Tryd.func65, Tryd.ntmps65
        go_wp2_with fail
        refine (must_true _).mono ?_
        rintro e w ⟨rfl, rfl⟩
        go_wp2_with fail
        refine (HD.out _).mono ?_
        rintro e w ⟨rfl, rfl⟩
        go_wp2_with fail
        refine (isPlain_any _ _).mono ?_
        rintro e w ⟨rfl, rfl⟩
        rw [g5]
        clear g5
        go_wp2_with fail
        refine (must_true _).mono ?_
        rintro e w ⟨rfl, rfl⟩
        go_wp2_with fail
        go_ret2
        exact ⟨rfl, rfl⟩
#print axioms quotedRd_any
end Go.Proofs.YtkfmmpolcjbnbaaDoor
