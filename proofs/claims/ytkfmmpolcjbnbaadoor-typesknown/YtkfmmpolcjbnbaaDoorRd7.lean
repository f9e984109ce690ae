/-
  The walk of readOctets: pairs of digits as bytes.
-/
import Derived.Test.YtkfmmpolcjbnbaaDoorRd5
import Derived.Test.YtkfmmpolcjbnbaaDoorMade
namespace Go.Proofs.YtkfmmpolcjbnbaaDoor
open Pl Go.RowKit

/-- The byte of a pair of digits. -/
def pr (l : List UInt8) (i : Nat) : Option Nat := hexF true 0 ((l.drop (2 * i)).take 2)
/-- The bytes that digits tell, pair by pair. -/
def octV (l : List UInt8) : Option (List Int) :=
  if (l.length % 2 = 0 ∧ l.length ≤ 8192) ∧ (∀ i, i < l.length / 2 → (pr l i).isSome = true) then some ((List.range (l.length / 2)).map fun i => (((pr l i).getD 0 : Nat) : Int)) else none

theorem pr_lt (l : List UInt8) (i : Nat) : (pr l i).getD 0 < 256 := by
  cases h : pr l i with
  | none => simp
  | some n => exact hexF2_lt true _ n (by simp; omega) h

set_option maxHeartbeats 4000000 in
set_option maxRecDepth 100000 in
theorem octetsRd_any (l : List UInt8) (w : World) (hl : l.length ≤ 1000000) :
    Calls Tryd.prog 39 #[.string (str l)] w (ReadsTo w (octV l)) := by
  have SL : Hid (∀ k, k < l.length / 2 → ∀ w : World, (Instr.slice 9 (.string (str l)) (some (.int .i64 (2 * (k : Int)))) (some (.int .i64 (2 * (k : Int) + 2))) none).run Tryd.prog w = .ok (.string (str ((l.drop (2 * k)).take 2))) w) := fun k hk w => by
    have := slice_str l (2 * k) (2 * k + 2) (by omega) (by omega) w
    rw [show 2 * k + 2 - 2 * k = 2 by omega] at this
    exact this
  have HH : Hid (∀ (k : Nat) (w : World), Calls Tryd.prog 59 #[.string (str ((l.drop (2 * k)).take 2)), .bool true] w fun e w' => e = endU (pr l k) ∧ w' = w) := fun k w => hexRd_any true _ w (by simp; omega)
  obtain ⟨s, HS, htl, hsz, hix⟩ := str_facts l
  rw [HS.out] at SL ⊢
  clear hix htl HS
  by_cases a0 : l.length % 2 = 0
  rotate_left
  · have g0 : ((l.length : Int) % 2 == 0) = false := by simp; omega
    have g0' : ((l.length : Int).tmod 2 == 0) = false := by rw [Int.tmod_eq_emod_of_nonneg (by omega)]; exact g0
    rw [show octV l = none from by unfold octV; rw [if_neg (by intro h; exact a0 h.1.1)]]
    clear SL HH a0
    go_enter Tryd.func39, Tryd.ntmps39
    go_wp2_with fail
    refine (must_false _).mono ?_
    rintro e w ⟨rfl, rfl⟩
    go_wp2_with fail
    exact ⟨rfl, rfl, Below.refl _ _⟩
  obtain ⟨n, hn⟩ : ∃ n, l.length = 2 * n := ⟨l.length / 2, by omega⟩
  have hn2 : l.length / 2 = n := by omega
  rw [hn2] at SL
  by_cases a1 : l.length ≤ 8192
  rotate_left
  · have g0 : ((l.length : Int) % 2) = 0 := by omega
    have g0' : ((l.length : Int).tmod 2) = 0 := by rw [Int.tmod_eq_emod_of_nonneg (by omega)]; exact g0
    have g1 : ¬ (l.length : Int) ≤ 8192 := by omega
    rw [show octV l = none from by unfold octV; rw [if_neg (by intro h; exact a1 h.1.2)]]
    clear SL HH a0 a1 hn hn2
    go_enter Tryd.func39, Tryd.ntmps39
    go_wp2_with fail
    first
      | refine (must_false _).mono ?_
      | (rw [show decide (l.length ≤ 8192) = false from by simp; omega]; refine (must_false _).mono ?_)
    rintro e w ⟨rfl, rfl⟩
    go_wp2_with fail
    exact ⟨rfl, rfl, Below.refl _ _⟩
  have g0 : ((l.length : Int) % 2) = 0 := by omega
  have g0' : ((l.length : Int).tmod 2) = 0 := by rw [Int.tmod_eq_emod_of_nonneg (by omega)]; exact g0
  have g1 : (l.length : Int) ≤ 8192 := by omega
  have g3 : (l.length : Int) / 2 = (n : Int) := by omega
  have g2 : (l.length : Int).tdiv 2 = (n : Int) := by rw [Int.tdiv_eq_ediv_of_nonneg (by omega)]; exact g3
  have hmk := make_run n (by omega) w
  have GOOD : Hid ((∀ i, i < n → (pr l i).isSome = true) → octV l = some ((List.range n).map fun i => (((pr l i).getD 0 : Nat) : Int))) := fun h => by
    unfold octV
    rw [hn2, if_pos ⟨⟨a0, a1⟩, h⟩]
  have BADK : Hid (∀ k, k < n → pr l k = none → octV l = none) := fun k hk h => by
    unfold octV
    rw [hn2, if_neg (by intro h'; have := h'.2 k hk; rw [h] at this; simp at this)]
  have hn8 : n ≤ 4096 := by omega
  clear a0 a1 hn hn2
  generalize octV l = R at *
  go_enter Tryd.func39, Tryd.ntmps39
  go_wp2_with fail
  refine (must_true _).mono ?_
  rintro e w ⟨rfl, rfl⟩
  go_wp2_with fail
  clear hmk
  go_loopw [21] (fun i wr => ∃ k : Nat, k ≤ n ∧ i = .int .i64 (k : Int) ∧ (∀ j, j < k → (pr l j).isSome = true) ∧ Below w.heap.size w wr ∧ (∀ j, j < k → wr.cell? ⟨w.heap.size, j, none⟩ = some (.int .u8 (((pr l j).getD 0 : Nat) : Int))) ∧ (∀ j, j < n → (∃ v, wr.cell? ⟨w.heap.size, j, none⟩ = some v) ∧ wr.frozen? ⟨w.heap.size, j, none⟩ = false))
    (fun i _ => n - (intOf i).toNat)
  case atStart =>
    exact ⟨0, Nat.zero_le _, rfl, fun j hj => absurd hj (Nat.not_lt_zero _), Below.al (Below.refl _ _) _, fun j hj => absurd hj (Nat.not_lt_zero _), fun j hj => ⟨⟨_, by rw [World.cell?_alloc_new, made_at n j hj]⟩, by simp [go_sem]⟩⟩
  case round =>
    obtain ⟨k, hk, rfl, hsome, hb, hc, hs⟩ := hrel
    by_cases hlt : k < n
    · obtain ⟨⟨v, hv⟩, hz⟩ := hs k hlt
      have HC : Hid (∀ j, j < k → wr.cell? ⟨w.heap.size, j, none⟩ = some (.int .u8 (((pr l j).getD 0 : Nat) : Int))) := hc
      have HZ : Hid (∀ j, j < n → (∃ v, wr.cell? ⟨w.heap.size, j, none⟩ = some v) ∧ wr.frozen? ⟨w.heap.size, j, none⟩ = false) := hs
      have HO : Hid (∀ j, j < k → (pr l j).isSome = true) := hsome
      clear hc hs hsome
      have hlt' : (k : Int) < (n : Int) := by omega
      have sl := SL.out k hlt
      have hh := HH.out k
      have PL := pr_lt l k
      cases hp : pr l k with
      | none =>
        have HE : Hid (R = none) := BADK.out k hlt hp
        rw [hp] at hh
        have HD : Hid (∀ w : World, Calls Tryd.prog 59 #[.string (str ((l.drop (2 * k)).take 2)), .bool true] w fun e w' => e = .panicked bad ∧ w' = w) := hh
        rw [HE.out]
        clear hp PL hh HE
        generalize str ((l.drop (2 * k)).take 2) = q at *
        go_wp2_with fail
        refine (HD.out _).mono ?_
        rintro e w ⟨rfl, rfl⟩
        go_wp2_with fail
        first | exact ⟨rfl, rfl, hb⟩ | exact ⟨rfl, ⟨rfl, hb⟩⟩
      | some x =>
        rw [hp] at hh PL
        have HD : Hid (∀ w : World, Calls Tryd.prog 59 #[.string (str ((l.drop (2 * k)).take 2)), .bool true] w fun e w' => e = .returned (.int .u64 (x : Int)) ∧ w' = w) := hh
        have hx : x < 256 := PL
        have wx : (x : Int) % 256 = (x : Int) := by omega
        have wx' : IntKind.u8.wrap (x : Int) = (x : Int) := by rw [IntKind.wrap_u8]; omega
        have HP : Hid (pr l k = some x) := hp
        clear hp PL hh
        generalize str ((l.drop (2 * k)).take 2) = q at *
        go_wp2_with fail
        refine (HD.out _).mono ?_
        rintro e wr ⟨rfl, rfl⟩
        go_wp2_with fail
        have st := fill_step (x := fun j => (((pr l j).getD 0 : Nat) : Int)) hb (Nat.le_refl _) hlt HC.out HZ.out
        rw [HP.out] at st
        exact ⟨⟨k + 1, by omega, by go_num, fun j hj => by rcases Nat.lt_succ_iff_lt_or_eq.1 hj with h | rfl; exact HO.out j h; rw [HP.out]; rfl, st.1, st.2.1, st.2.2⟩, by simp [intOf]; omega⟩
    · obtain rfl : k = n := by omega
      have HE : Hid (R = some ((List.range k).map fun i => (((pr l i).getD 0 : Nat) : Int))) := GOOD.out hsome
      have HC : Hid (∀ j, j < k → wr.cell? ⟨w.heap.size, j, none⟩ = some (.int .u8 (((pr l j).getD 0 : Nat) : Int))) := hc
      have HZ : Hid (∀ j, j < k → (∃ v, wr.cell? ⟨w.heap.size, j, none⟩ = some v) ∧ wr.frozen? ⟨w.heap.size, j, none⟩ = false) := hs
      clear hc hs hsome
      go_wp2_with fail
      go_ret
      rw [HE.out]
      refine ⟨⟨_, _, _, rfl, ⟨⟨by simp, fun m hm => ?_, fun hp => ⟨_, 0, rfl, fun i hi => ?_⟩⟩, Nat.le_refl _, by unfold maxLen; omega, fun _ => ⟨_, rfl, Nat.le_refl _, fun i hi => (HZ.out i hi).2⟩⟩⟩, hb⟩
      · obtain ⟨i, _, rfl⟩ := List.mem_map.1 hm
        have := pr_lt l i
        omega
      · rw [Nat.zero_add, HC.out i hi]
        simp [List.getD_eq_getElem?_getD, hi]
#print axioms octetsRd_any
end Go.Proofs.YtkfmmpolcjbnbaaDoor
