/-
  EmcyPlays of any node's errors and any row of calls.
-/
import Derived.Test.YtnbdnmfnmnboiaaZv
import Derived.Test.YtnbdnmfnmnboiaaZw
namespace Go.Proofs.Ytnbdnmfnmnboiaa
open Go.RowKit

set_option linter.unusedSimpArgs false in
set_option maxHeartbeats 4000000 in
set_option maxRecDepth 100000 in
theorem plays_many (a0 i0 : Int) (a : Option Addr) (len cap : Nat) (w : World) (hl : 300 < len) : Calls Try.prog 3 #[.int .u8 a0, .int .i64 i0, .slice a len cap] w fun e w' => e = .returned (.bool true) ∧ Below w.heap.size w w' := by
  have hl' : (300 : Int) < (len : Int) := by omega
  go_enter Try.func3, Try.ntmps3
  go_wp2_with fail
  refine (works_any _).mono ?_
  rintro e w' ⟨rfl, hb⟩
  go_wp2_with fail
  go_ret
  exact ⟨rfl, hb⟩
set_option linter.unusedSimpArgs false in
set_option maxHeartbeats 4000000 in
set_option maxRecDepth 100000 in
theorem plays_bad (a0 i0 : Int) (a : Option Addr) (len cap : Nat) (w : World) (hl : len ≤ 300) (h : ndB a0 = false ∨ tmB i0 = false) : Calls Try.prog 3 #[.int .u8 a0, .int .i64 i0, .slice a len cap] w fun e w' => e = .returned (.bool true) ∧ Below w.heap.size w w' := by
  have hl' : ¬ (300 : Int) < (len : Int) := by omega
  have NP := fun W => new_bad a0 i0 h W
  have NU := fun W => rnew_bad a0 i0 h W
  clear h
  go_enter Try.func3, Try.ntmps3
  go_wp2_with fail
  refine (NP _).mono ?_
  rintro e w1 ⟨rfl, rfl⟩
  go_wp2_with fail
  refine (NU _).mono ?_
  rintro e w2 ⟨rfl, rfl⟩
  go_wp2_with fail
  go_loopw [11] (fun u wr => u = .int .i64 0 ∧ wr = w2) (fun u _ => 0)
  case atStart => exact ⟨rfl, rfl⟩
  case round =>
    obtain ⟨rfl, rfl⟩ := hrel
    clear NP NU
    by_cases h0 : (0 : Int) < (len : Int)
    all_goals
      go_wp2_with fail
      refine (works_any _).mono ?_
      rintro e w' ⟨rfl, hb⟩
      go_wp2_with fail
      go_ret
      exact ⟨rfl, hb⟩
set_option linter.unusedSimpArgs false in
set_option maxHeartbeats 4000000 in
set_option maxRecDepth 100000 in
theorem plays_good (a0 i0 : Int) (a : Option Addr) (len cap : Nat) (L : List Opx) (w : World) (o : IsOpx w a len L) (hl : len ≤ 300) (h : ndB a0 = true) (hi : tmB i0 = true) : Calls Try.prog 3 #[.int .u8 a0, .int .i64 i0, .slice a len cap] w fun e w' => e = .returned (.bool true) ∧ Below w.heap.size w w' := by
  have hl' : ¬ (300 : Int) < (len : Int) := by omega
  have NP := fun W => new_ok a0 i0 h hi W
  have NU := fun W => rnew_ok a0 i0 h hi W
  have O : Hid (IsOpx w a len L) := o
  have lsz := o.size
  clear h hi o
  go_enter Try.func3, Try.ntmps3
  go_wp2_with fail
  refine (NP _).mono ?_
  rintro e w1 ⟨⟨p, m, rfl, hE, lp, lm⟩, b1⟩
  go_wp2_with fail
  refine (NU _).mono ?_
  rintro e w2 ⟨⟨q, rfl, hD, lq⟩, b2⟩
  have T : Hid (Tw w w2 p m q (newS a0 i0) (newS a0 i0) []) := Tw.new hE lp lm b1 hD lq b2
  clear hE lp lm b1 hD lq b2 NP NU
  go_wp2_with fail
  go_loopw [11] (fun u wr => ∃ i : Nat, i ≤ len ∧ u = .int .i64 (i : Int) ∧ ∃ S, Hid (Tw w wr p m q S S [])) (fun u _ => len - (intOf u).toNat)
  case atStart => exact ⟨0, Nat.zero_le _, rfl, _, T⟩
  case round =>
    clear T
    obtain ⟨i, hil, rfl, S, TR⟩ := hrel
    by_cases hlt : i < len
    rotate_left
    · have g1 : ¬ (i : Int) < (len : Int) := by omega
      have B : Hid (Below w.heap.size w wr) := TR.out.bel
      clear TR
      go_wp2_with fail
      refine (works_any _).mono ?_
      rintro e w' ⟨rfl, hb⟩
      go_wp2_with fail
      go_ret
      exact ⟨rfl, Below.andThen B.out hb⟩
    have g1 : (i : Int) < (len : Int) := by omega
    obtain ⟨x, hx⟩ : ∃ x, L[i]? = some x := ⟨L[i]'(by omega), List.getElem?_eq_getElem _⟩
    have XO : Hid x.Ok := O.out.good x (List.mem_of_getElem? hx)
    obtain ⟨b, off, e2, hc0⟩ := O.out.at_ (by omega)
    subst e2
    have HC : Hid (∀ W, Below w.heap.size w W → ∀ j v, x.C[j]? = some v → W.cell? ⟨b, off + i * 9 + j, none⟩ = some v) := fun W hW j v hv => cl11 hW (hc0 i x hx j v hv)
    clear hc0
    have wi : IntKind.i64.wrap ((i : Int) + 1) = ((i + 1 : Nat) : Int) := by rw [IntKind.wrap_i64]; omega
    have B0 := TR.out.bel
    have c0 : wr.cell? ⟨b, off + i * 9, none⟩ = some (.int .u8 x.k) := HC.out _ B0 0 _ rfl
    have c1 : wr.cell? ⟨b, off + i * 9 + 1, none⟩ = some (.int .u16 x.c) := HC.out _ B0 1 _ rfl
    have c2 : wr.cell? ⟨b, off + i * 9 + 2, none⟩ = some (.int .u8 (x.b : Int)) := HC.out _ B0 2 _ rfl
    have c3 : wr.cell? ⟨b, off + i * 9 + 3, none⟩ = some (.int .u8 x.i0) := HC.out _ B0 3 _ rfl
    have c4 : wr.cell? ⟨b, off + i * 9 + 4, none⟩ = some (.int .u8 x.i1) := HC.out _ B0 4 _ rfl
    have c5 : wr.cell? ⟨b, off + i * 9 + 5, none⟩ = some (.int .u8 x.i2) := HC.out _ B0 5 _ rfl
    have c6 : wr.cell? ⟨b, off + i * 9 + 6, none⟩ = some (.int .u8 x.i3) := HC.out _ B0 6 _ rfl
    have c7 : wr.cell? ⟨b, off + i * 9 + 7, none⟩ = some (.int .u8 x.i4) := HC.out _ B0 7 _ rfl
    have c8 : wr.cell? ⟨b, off + i * 9 + 8, none⟩ = some (.int .i64 x.now) := HC.out _ B0 8 _ rfl
    clear B0
    go_wp2_with fail
    refine (one_any TR.out x XO.out).mono ?_
    rintro e wa ⟨rfl, Ta, -⟩
    have d1 : wa.cell? ⟨b, off + i * 9 + 1, none⟩ = some (.int .u16 x.c) := HC.out _ Ta.bel 1 _ rfl
    clear c0 c1 c2 c3 c4 c5 c6 c7 c8 TR
    go_wp2_with fail
    refine (tells_any Ta x.c).mono ?_
    rintro e wb ⟨rfl, hb⟩
    have Tb := Ta.next hb
    have f1 : wb.cell? ⟨b, off + i * 9 + 1, none⟩ = some (.int .u16 x.c) := HC.out _ Tb.bel 1 _ rfl
    clear Ta d1 hb
    go_wp2_with fail
    refine (tells_any Tb x.c).mono ?_
    rintro e wc ⟨rfl, hc⟩
    have TC : Hid (Tw w wc p m q (S.step x) (S.step x) []) := Tb.next hc
    clear Tb f1 hc
    go_wp2_with fail
    exact ⟨⟨i + 1, by omega, by go_num, _, TC⟩, by simp [intOf]; omega⟩
theorem emcyPlays_any (a0 i0 : Int) (a : Option Addr) (len cap : Nat) (L : List Opx) (w : World) (o : IsOpx w a len L) : Calls Try.prog 3 #[.int .u8 a0, .int .i64 i0, .slice a len cap] w fun e w' => e = .returned (.bool true) ∧ Below w.heap.size w w' := by
  by_cases hl : 300 < len
  · exact plays_many a0 i0 a len cap w hl
  · cases h : ndB a0 with
    | false => exact plays_bad a0 i0 a len cap w (by omega) (.inl h)
    | true =>
      cases hi : tmB i0 with
      | false => exact plays_bad a0 i0 a len cap w (by omega) (.inr hi)
      | true => exact plays_good a0 i0 a len cap L w o (by omega) h hi
#print axioms emcyPlays_any
end Go.Proofs.Ytnbdnmfnmnboiaa
