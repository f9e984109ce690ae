/-
  The walks of a watch's Set.
-/
import Derived.Test.YtjdfacjfpdfafaaHf
namespace Go.Proofs.Ytjdfacjfpdfafaa
open Go.RowKit

/-- What Set answers. -/
def setC (S : List Nd) (a W : Int) : Int := if ndB a = true ∧ tmB W = true then (if W = 0 then 0 else match S[a.toNat]? with
  | none => 3
  | some x => if x.W = 0 ∧ 16 ≤ cntS S 128 then 3 else 0) else 2
/-- What stands behind it. -/
def setL (S : List Nd) (a W : Int) : List Nd := if setC S a W = 0 then S.set a.toNat (fresh W) else S
theorem setL_no {S : List Nd} {a W : Int} (h : setC S a W ≠ 0) : setL S a W = S := if_neg h
theorem setL_ok {S : List Nd} {a W : Int} (h : setC S a W = 0) : setL S a W = S.set a.toNat (fresh W) := if_pos h
theorem setC_bad {S : List Nd} {a W : Int} (h : ndB a = false ∨ tmB W = false) : setC S a W = 2 := by
  unfold setC
  rw [if_neg]
  rintro ⟨h1, h2⟩
  rcases h with h | h
  · rw [h] at h1; cases h1
  · rw [h] at h2; cases h2
theorem setC_zero {S : List Nd} {a : Int} (h : ndB a = true) : setC S a 0 = 0 := by
  unfold setC
  rw [if_pos ⟨h, by decide⟩, if_pos rfl]
theorem setC_at {S : List Nd} {a W : Int} {x : Nd} (h : ndB a = true) (hW : tmB W = true) (h0 : ¬ W = 0) (hx : S[a.toNat]? = some x) : setC S a W = if x.W = 0 ∧ 16 ≤ cntS S 128 then 3 else 0 := by
  unfold setC
  rw [if_pos ⟨h, hW⟩, if_neg h0, hx]

set_option linter.unusedSimpArgs false in
set_option maxHeartbeats 4000000 in
set_option maxRecDepth 100000 in
theorem set_bad (p : Nat) (a W : Int) (h : ndB a = false ∨ tmB W = false) (w : World) : Calls Try.prog 18 #[pt p, .int .u8 a, .int .i64 W] w fun e w' => e = .returned (.int .i64 2) ∧ w' = w := by
  have I1 := fun w => isNode_any a w
  have I2 := fun w => isTime_any W w
  cases hx : ndB a with
  | false =>
    rw [hx] at I1
    clear h
    go_enter Try.func18, Try.ntmps18
    go_wp2_with fail
    refine (I1 _).mono ?_
    rintro e w1 ⟨rfl, rfl⟩
    go_wp2_with fail
    go_ret
    exact ⟨rfl, rfl⟩
  | true =>
    have hy : tmB W = false := by rcases h with h | h; (rw [hx] at h; cases h); exact h
    rw [hx] at I1
    rw [hy] at I2
    clear h
    go_enter Try.func18, Try.ntmps18
    go_wp2_with fail
    refine (I1 _).mono ?_
    rintro e w1 ⟨rfl, rfl⟩
    go_wp2_with fail
    refine (I2 _).mono ?_
    rintro e w1 ⟨rfl, rfl⟩
    go_wp2_with fail
    go_ret
    exact ⟨rfl, rfl⟩
set_option linter.unusedSimpArgs false in
set_option maxHeartbeats 4000000 in
set_option maxRecDepth 100000 in
theorem nil_wset (a W : Int) (w : World) : Calls Try.prog 18 #[.pointer none, .int .u8 a, .int .i64 W] w fun e w' => e = .returned (.int .i64 1) ∧ w' = w := by
  go_enter Try.func18, Try.ntmps18
  go_wp2_with fail
  go_ret
  exact ⟨rfl, rfl⟩
set_option linter.unusedSimpArgs false in
set_option maxHeartbeats 4000000 in
set_option maxRecDepth 100000 in
theorem set_zero {w : World} {base p k : Nat} {P : List (Option Nat)} {S : List Nd} (h : IsW w base p P S) (hn : ndB (k : Int) = true) : Calls Try.prog 18 #[pt p, .int .u8 (k : Int), .int .i64 0] w fun e w' => e = .returned (.int .i64 0) ∧ (∃ P', IsW w' base p P' (S.set k (fresh 0))) ∧ Kt base w w' := by
  have I1 := fun w => isNode_any (k : Int) w
  have I2 := fun w => isTime_any 0 w
  rw [hn] at I1
  rw [show tmB 0 = true from by decide] at I2
  have gk : (k : Int) < 128 := by have := ndB_of hn; omega
  have gk0 : (0 : Int) ≤ (k : Int) := by omega
  have gn : k < 128 := by omega
  obtain ⟨o, ho⟩ : ∃ o, P[k]? = some o := ⟨_, List.getElem?_eq_getElem (by have := h.pl; omega)⟩
  have cw := cellW h.row ho
  have zw := froz11 w p k _ _ h.row
  have F : Hid _ := h.clr gn
  clear hn h ho
  go_enter Try.func18, Try.ntmps18
  go_wp2_with fail
  refine (I1 _).mono ?_
  rintro e w1 ⟨rfl, rfl⟩
  go_wp2_with fail
  refine (I2 _).mono ?_
  rintro e w1 ⟨rfl, rfl⟩
  go_wp2_with fail
  go_ret
  exact ⟨rfl, ⟨_, F.out.1⟩, F.out.2⟩
set_option linter.unusedSimpArgs false in
set_option maxHeartbeats 4000000 in
set_option maxRecDepth 100000 in
theorem set_lim {w : World} {p k : Nat} {P : List (Option Nat)} (hl : P.length = 128) (hp : w.heap[p]? = some (.cells (wC P).toArray 81 (0, 0))) (ho : P[k]? = some none) (hn : ndB (k : Int) = true) (W : Int) (hW : tmB W = true) (h0 : ¬ W = 0) (hc : 16 ≤ cntP P 128) : Calls Try.prog 18 #[pt p, .int .u8 (k : Int), .int .i64 W] w fun e w' => e = .returned (.int .i64 3) ∧ w' = w := by
  have I1 := fun w => isNode_any (k : Int) w
  have I2 := fun w => isTime_any W w
  have CN := count_any p P hl w hp
  rw [hn] at I1
  rw [hW] at I2
  have gk : (k : Int) < 128 := by have := ndB_of hn; omega
  have gk0 : (0 : Int) ≤ (k : Int) := by omega
  have gn : k < 128 := by omega
  have cw : w.cell? ⟨p, k, none⟩ = some (.pointer none) := cellW hp ho
  have gc : (16 : Int) ≤ (cntP P 128 : Nat) := by omega
  clear hn hW hp ho hl hc
  go_enter Try.func18, Try.ntmps18
  go_wp2_with fail
  refine (I1 _).mono ?_
  rintro e w1 ⟨rfl, rfl⟩
  go_wp2_with fail
  refine (I2 _).mono ?_
  rintro e w1 ⟨rfl, rfl⟩
  go_wp2_with fail
  refine CN.mono ?_
  rintro e w1 ⟨rfl, rfl⟩
  go_wp2_with fail
  go_ret
  exact ⟨rfl, rfl⟩
set_option linter.unusedSimpArgs false in
set_option maxHeartbeats 4000000 in
set_option maxRecDepth 100000 in
theorem set_new {w : World} {base p k : Nat} {P : List (Option Nat)} {S : List Nd} (h : IsW w base p P S) (hb : base ≤ w.heap.size) (hn : ndB (k : Int) = true) (W : Int) (hW : tmB W = true) (h0 : ¬ W = 0) (hc : P[k]? = some none → cntP P 128 < 16) : Calls Try.prog 18 #[pt p, .int .u8 (k : Int), .int .i64 W] w fun e w' => e = .returned (.int .i64 0) ∧ (∃ P', IsW w' base p P' (S.set k (fresh W))) ∧ Kt base w w' := by
  have I1 := fun w => isNode_any (k : Int) w
  have I2 := fun w => isTime_any W w
  have CN := count_any p P h.pl w h.row
  have lp := lt_of_heap h.row
  have gk : (k : Int) < 128 := by have := ndB_of hn; omega
  have gk0 : (0 : Int) ≤ (k : Int) := by omega
  have gn : k < 128 := by omega
  have zw := froz11 w p k _ _ h.row
  have F := h.new hb gn (x := fresh W) (by have := tmB_of hW; show 0 < W; omega) (fresh_ok hW)
  rw [show ndC (fresh W) = #[.int .i64 W, .bool false, .int .u8 0, .int .i64 0] from rfl] at F
  have FH : Hid _ := F
  rw [hn] at I1
  rw [hW] at I2
  obtain ⟨o, ho⟩ : ∃ o, P[k]? = some o := ⟨_, List.getElem?_eq_getElem (by have := h.pl; omega)⟩
  cases o with
  | none =>
    have cw : w.cell? ⟨p, k, none⟩ = some (.pointer none) := cellW h.row ho
    have gc : ¬ (16 : Int) ≤ (cntP P 128 : Nat) := by have := hc ho; omega
    clear hn hW h ho hc F hb
    go_enter Try.func18, Try.ntmps18
    go_wp2_with fail
    refine (I1 _).mono ?_
    rintro e w1 ⟨rfl, rfl⟩
    go_wp2_with fail
    refine (I2 _).mono ?_
    rintro e w1 ⟨rfl, rfl⟩
    go_wp2_with fail
    refine CN.mono ?_
    rintro e w1 ⟨rfl, rfl⟩
    go_wp2_with fail
    go_ret
    exact ⟨rfl, ⟨_, FH.out.1⟩, FH.out.2⟩
  | some b =>
    have cw : w.cell? ⟨p, k, none⟩ = some (.pointer (some ⟨b, 0, none⟩)) := cellW h.row ho
    clear hn hW h ho hc F hb CN
    go_enter Try.func18, Try.ntmps18
    go_wp2_with fail
    refine (I1 _).mono ?_
    rintro e w1 ⟨rfl, rfl⟩
    go_wp2_with fail
    refine (I2 _).mono ?_
    rintro e w1 ⟨rfl, rfl⟩
    go_wp2_with fail
    go_ret
    exact ⟨rfl, ⟨_, FH.out.1⟩, FH.out.2⟩
theorem set_any {w : World} {base p : Nat} {P : List (Option Nat)} {S : List Nd} (h : IsW w base p P S) (hb : base ≤ w.heap.size) (a W : Int) (h0 : 0 ≤ a) : Calls Try.prog 18 #[pt p, .int .u8 a, .int .i64 W] w fun e w' => e = .returned (.int .i64 (setC S a W)) ∧ (∃ P', IsW w' base p P' (setL S a W)) ∧ Kt base w w' := by
  by_cases hx : ndB a = false ∨ tmB W = false
  · rw [setL_no (by rw [setC_bad hx]; decide), setC_bad hx]
    refine (set_bad p a W hx w).mono ?_
    rintro e w' ⟨rfl, rfl⟩
    exact ⟨rfl, ⟨P, h⟩, Kt.refl _ _⟩
  have ha : ndB a = true := by cases q : ndB a; exact absurd (.inl q) hx; rfl
  have hW : tmB W = true := by cases q : tmB W; exact absurd (.inr q) hx; rfl
  obtain ⟨k, rfl⟩ : ∃ k : Nat, a = k := ⟨a.toNat, by omega⟩
  by_cases hz : W = 0
  · subst hz
    rw [setL_ok (setC_zero ha), setC_zero ha]
    exact set_zero h ha
  obtain ⟨x, hx', hc⟩ := h.at_ (k := k) (by have := ndB_of ha; omega)
  have hS := setC_at (S := S) ha hW hz (x := x) hx'
  by_cases hq : x.W = 0 ∧ 16 ≤ cntS S 128
  · rw [if_pos hq] at hS
    rw [setL_no (by rw [hS]; decide), hS]
    rcases hc with ⟨_, ho⟩ | ⟨b, hn, _⟩
    · refine (set_lim h.pl h.row ho ha W hW hz (by rw [h.cnt 128 (Nat.le_refl _)]; exact hq.2)).mono ?_
      rintro e w' ⟨rfl, rfl⟩
      exact ⟨rfl, ⟨P, h⟩, Kt.refl _ _⟩
    · exact absurd hq.1 (by omega)
  · rw [if_neg hq] at hS
    rw [setL_ok hS, hS]
    refine set_new h hb ha W hW hz fun ho => ?_
    rw [h.cnt 128 (Nat.le_refl _)]
    rcases hc with ⟨h1, _⟩ | ⟨b, _, h2, _⟩
    · have := fun h2 => hq ⟨h1, h2⟩
      omega
    · rw [h2] at ho; cases ho
#print axioms set_any
end Go.Proofs.Ytjdfacjfpdfafaa
