/-
  A watch in memory; eachHere: what is asked of the nodes that are here, one behind the other; count.
-/
import Derived.Test.YtjdfacjfpdfafaaHc
import Derived.BigQuiet
namespace Go.Proofs.Ytjdfacjfpdfafaa
open Go.RowKit

theorem below_drewN {N : Nat} {a w : World} (h : Below N a w) : ∀ n, Below N a (w.drewN n)
  | 0 => h
  | n + 1 => Below.drew (below_drewN h n)
/-- A pointer to a node that is watched, or none. -/
def ptO : Option Nat → Value
  | none => .pointer none
  | some b => pt b
/-- A watch's cells. -/
def wC (P : List (Option Nat)) : List Value := P.map ptO
theorem infoA : (Try.prog.info? 79).map (·.size) = some 128 := by kernel_rfl
theorem aggA (w : World) : (isAgg 79).run Try.prog w = .ok true w := by kernel_rfl
theorem loadA (w : World) (p : Nat) (P : List (Option Nat)) (hl : P.length = 128) (h : w.heap[p]? = some (.cells (wC P).toArray 81 (0, 0))) : (loadVar 79 ⟨p, 0, none⟩).run Try.prog w = .ok (.agg (wC P).toArray) w := by
  have := load_part 79 128 infoA aggA w p 0 (wC P) 81 h (by simp [wC, hl])
  rw [this, List.drop_zero, List.take_of_length_le (by simp [wC, hl])]
theorem indexA (W : World) (P : List (Option Nat)) (hl : P.length = 128) (k : Nat) (o : Option Nat) (h : P[k]? = some o) : (Instr.index 79 (.agg (wC P).toArray) (.int .i64 (k : Int))).run Try.prog W = .ok (ptO o) W := by
  have hk : k < 128 := by rw [← hl]; exact (List.getElem?_eq_some_iff.1 h).1
  have g : (wC P)[k]? = some (ptO o) := by simp [wC, h]
  simp [Instr.index, run_underlying Try.underlying79, asIntOf, hk, part, g]
theorem cellW {w : World} {p k : Nat} {P : List (Option Nat)} {o : Option Nat} (h : w.heap[p]? = some (.cells (wC P).toArray 81 (0, 0))) (hk : P[k]? = some o) : w.cell? ⟨p, k, none⟩ = some (ptO o) := by
  rw [cell_of_row w p k _ _ _ h]
  simp [wC, hk]
set_option linter.unusedSimpArgs false in
set_option maxHeartbeats 4000000 in
set_option maxRecDepth 100000 in
theorem each_tick (p : Nat) (P : List (Option Nat)) (hl : P.length = 128) (q1 q2 : Value) (Inv : Nat → World → Prop) (HC : ∀ k W, k < 128 → Inv k W → (P[k]? = some none → Inv (k + 1) W) ∧ ∀ b, P[k]? = some (some b) → ∃ on : Bool, W.cell? ⟨b, 1, none⟩ = some (.bool on) ∧ (on = true → Calls Try.prog 40 #[.int .u8 (k : Int), pt b, q1, q2] W fun e w' => e = .returned (.tuple #[]) ∧ Inv (k + 1) w') ∧ (on = false → Inv (k + 1) W)) (w : World) (hp : w.heap[p]? = some (.cells (wC P).toArray 81 (0, 0))) (h0 : Inv 0 w) :
    Calls Try.prog 39 #[pt p, .func (.func 40) #[] #[q1, q2]] w fun e w' => e = .returned (.tuple #[]) ∧ Inv 128 w' := by
  have HCC : Hid (∀ k W, k < 128 → Inv k W → (P[k]? = some none → Inv (k + 1) W) ∧ ∀ b, P[k]? = some (some b) → ∃ on : Bool, W.cell? ⟨b, 1, none⟩ = some (.bool on) ∧ (on = true → Calls Try.prog 40 #[.int .u8 (k : Int), pt b, q1, q2] W fun e w' => e = .returned (.tuple #[]) ∧ Inv (k + 1) w') ∧ (on = false → Inv (k + 1) W)) := HC
  have I0 : Hid (Inv 0 w) := h0
  have LA := loadA w p P hl hp
  have LL : Hid (P.length = 128) := hl
  clear HC h0 hp hl
  go_enter Try.func39, Try.ntmps39
  go_wp2_with (refine wpList_load_by rfl 79 _ rfl ⟨p, 0, none⟩ _ rfl LA ?_)
  go_loopw [12] (fun iv wr => ∃ k : Nat, k ≤ 128 ∧ iv = .int .i64 (k : Int) ∧ Hid (Inv k wr)) (fun iv _ => 128 - (intOf iv).toNat)
  case atStart => exact ⟨0, Nat.zero_le _, rfl, I0.out⟩
  case round =>
    clear I0 LA
    obtain ⟨k, hk, rfl, HR⟩ := hrel
    by_cases hk8 : k < 128
    · have gk : (k : Int) < 128 := by omega
      have gk0 : (0 : Int) ≤ (k : Int) := by omega
      have wk : IntKind.i64.wrap ((k : Int) + 1) = ((k + 1 : Nat) : Int) := by rw [IntKind.wrap_i64]; omega
      have wu : IntKind.u8.wrap (k : Int) = (k : Int) := by rw [IntKind.wrap_u8]; omega
      obtain ⟨h1, h2⟩ := HCC.out k wr hk8 HR.out
      obtain ⟨o, ho⟩ : ∃ o, P[k]? = some o := ⟨_, List.getElem?_eq_getElem (by have := LL.out; omega)⟩
      have IX := indexA wr P LL.out k o ho
      cases o with
      | none =>
        have HI : Hid (Inv (k + 1) wr) := h1 ho
        rw [ptO] at IX
        clear h1 h2 ho HR HCC
        go_wp2_with fail
        exact ⟨⟨k + 1, by omega, by go_num, HI.out⟩, by simp [intOf]; omega⟩
      | some b =>
        obtain ⟨on, co, h3, h4⟩ := h2 b ho
        rw [ptO, pt] at IX
        clear h1 h2 ho HR HCC
        cases on with
        | true =>
          have CL := h3 rfl
          clear h3 h4
          go_wp2_with fail
          refine CL.mono ?_
          rintro e w2 ⟨rfl, hi⟩
          have HI : Hid (Inv (k + 1) w2) := hi
          clear hi CL co IX
          go_wp2_with fail
          exact ⟨⟨k + 1, by omega, by go_num, HI.out⟩, by simp [intOf]; omega⟩
        | false =>
          have HI : Hid (Inv (k + 1) wr) := h4 rfl
          clear h3 h4
          go_wp2_with fail
          exact ⟨⟨k + 1, by omega, by go_num, HI.out⟩, by simp [intOf]; omega⟩
    · obtain rfl : k = 128 := by omega
      have HI : Hid (Inv 128 wr) := HR.out
      clear HR HCC
      go_wp2_with fail
      go_end0
      exact ⟨rfl, HI.out⟩
set_option linter.unusedSimpArgs false in
set_option maxHeartbeats 4000000 in
set_option maxRecDepth 100000 in
theorem nil_tickEach (q1 q2 : Value) (w : World) : Calls Try.prog 39 #[.pointer none, .func (.func 40) #[] #[q1, q2]] w fun e w' => e = .returned (.tuple #[]) ∧ w' = w := by
  go_enter Try.func39, Try.ntmps39
  go_wp2_with fail
  exact bodyPost_ret (v := .tuple #[]) (by simp [results, Try.results39, go_sem]) rfl ⟨rfl, rfl⟩
set_option linter.unusedSimpArgs false in
set_option maxHeartbeats 4000000 in
set_option maxRecDepth 100000 in
theorem each_due (p : Nat) (P : List (Option Nat)) (hl : P.length = 128) (q1 q2 : Value) (Inv : Nat → World → Prop) (HC : ∀ k W, k < 128 → Inv k W → (P[k]? = some none → Inv (k + 1) W) ∧ ∀ b, P[k]? = some (some b) → ∃ on : Bool, W.cell? ⟨b, 1, none⟩ = some (.bool on) ∧ (on = true → Calls Try.prog 44 #[.int .u8 (k : Int), pt b, q1, q2] W fun e w' => e = .returned (.tuple #[]) ∧ Inv (k + 1) w') ∧ (on = false → Inv (k + 1) W)) (w : World) (hp : w.heap[p]? = some (.cells (wC P).toArray 81 (0, 0))) (h0 : Inv 0 w) :
    Calls Try.prog 39 #[pt p, .func (.func 44) #[] #[q1, q2]] w fun e w' => e = .returned (.tuple #[]) ∧ Inv 128 w' := by
  have HCC : Hid (∀ k W, k < 128 → Inv k W → (P[k]? = some none → Inv (k + 1) W) ∧ ∀ b, P[k]? = some (some b) → ∃ on : Bool, W.cell? ⟨b, 1, none⟩ = some (.bool on) ∧ (on = true → Calls Try.prog 44 #[.int .u8 (k : Int), pt b, q1, q2] W fun e w' => e = .returned (.tuple #[]) ∧ Inv (k + 1) w') ∧ (on = false → Inv (k + 1) W)) := HC
  have I0 : Hid (Inv 0 w) := h0
  have LA := loadA w p P hl hp
  have LL : Hid (P.length = 128) := hl
  clear HC h0 hp hl
  go_enter Try.func39, Try.ntmps39
  go_wp2_with (refine wpList_load_by rfl 79 _ rfl ⟨p, 0, none⟩ _ rfl LA ?_)
  go_loopw [12] (fun iv wr => ∃ k : Nat, k ≤ 128 ∧ iv = .int .i64 (k : Int) ∧ Hid (Inv k wr)) (fun iv _ => 128 - (intOf iv).toNat)
  case atStart => exact ⟨0, Nat.zero_le _, rfl, I0.out⟩
  case round =>
    clear I0 LA
    obtain ⟨k, hk, rfl, HR⟩ := hrel
    by_cases hk8 : k < 128
    · have gk : (k : Int) < 128 := by omega
      have gk0 : (0 : Int) ≤ (k : Int) := by omega
      have wk : IntKind.i64.wrap ((k : Int) + 1) = ((k + 1 : Nat) : Int) := by rw [IntKind.wrap_i64]; omega
      have wu : IntKind.u8.wrap (k : Int) = (k : Int) := by rw [IntKind.wrap_u8]; omega
      obtain ⟨h1, h2⟩ := HCC.out k wr hk8 HR.out
      obtain ⟨o, ho⟩ : ∃ o, P[k]? = some o := ⟨_, List.getElem?_eq_getElem (by have := LL.out; omega)⟩
      have IX := indexA wr P LL.out k o ho
      cases o with
      | none =>
        have HI : Hid (Inv (k + 1) wr) := h1 ho
        rw [ptO] at IX
        clear h1 h2 ho HR HCC
        go_wp2_with fail
        exact ⟨⟨k + 1, by omega, by go_num, HI.out⟩, by simp [intOf]; omega⟩
      | some b =>
        obtain ⟨on, co, h3, h4⟩ := h2 b ho
        rw [ptO, pt] at IX
        clear h1 h2 ho HR HCC
        cases on with
        | true =>
          have CL := h3 rfl
          clear h3 h4
          go_wp2_with fail
          refine CL.mono ?_
          rintro e w2 ⟨rfl, hi⟩
          have HI : Hid (Inv (k + 1) w2) := hi
          clear hi CL co IX
          go_wp2_with fail
          exact ⟨⟨k + 1, by omega, by go_num, HI.out⟩, by simp [intOf]; omega⟩
        | false =>
          have HI : Hid (Inv (k + 1) wr) := h4 rfl
          clear h3 h4
          go_wp2_with fail
          exact ⟨⟨k + 1, by omega, by go_num, HI.out⟩, by simp [intOf]; omega⟩
    · obtain rfl : k = 128 := by omega
      have HI : Hid (Inv 128 wr) := HR.out
      clear HR HCC
      go_wp2_with fail
      go_end0
      exact ⟨rfl, HI.out⟩
set_option linter.unusedSimpArgs false in
set_option maxHeartbeats 4000000 in
set_option maxRecDepth 100000 in
theorem nil_dueEach (q1 q2 : Value) (w : World) : Calls Try.prog 39 #[.pointer none, .func (.func 44) #[] #[q1, q2]] w fun e w' => e = .returned (.tuple #[]) ∧ w' = w := by
  go_enter Try.func39, Try.ntmps39
  go_wp2_with fail
  exact bodyPost_ret (v := .tuple #[]) (by simp [results, Try.results39, go_sem]) rfl ⟨rfl, rfl⟩
/-- How many of the first k there are. -/
def cntP (P : List (Option Nat)) (k : Nat) : Nat := (P.take k).countP (·.isSome)
theorem cntP_succ {P : List (Option Nat)} {k : Nat} {o : Option Nat} (h : P[k]? = some o) : cntP P (k + 1) = cntP P k + (if o.isSome = true then 1 else 0) := by
  obtain ⟨hk, rfl⟩ := List.getElem?_eq_some_iff.1 h
  unfold cntP
  rw [List.take_succ_eq_append_getElem hk, List.countP_append, List.countP_singleton]
theorem cntP_le (P : List (Option Nat)) (k : Nat) : cntP P k ≤ k := by
  unfold cntP
  exact Nat.le_trans List.countP_le_length (by rw [List.length_take]; omega)
set_option linter.unusedSimpArgs false in
set_option maxHeartbeats 4000000 in
set_option maxRecDepth 100000 in
theorem count_any (p : Nat) (P : List (Option Nat)) (hl : P.length = 128) (w : World) (hp : w.heap[p]? = some (.cells (wC P).toArray 81 (0, 0))) :
    Calls Try.prog 36 #[pt p] w fun e w' => e = .returned (.int .i64 (cntP P 128 : Nat)) ∧ w' = w := by
  have LA := loadA w p P hl hp
  have LL : Hid (P.length = 128) := hl
  clear hp hl
  go_enter Try.func36, Try.ntmps36
  go_wp2_with (refine wpList_load_by rfl 79 _ rfl ⟨p, 0, none⟩ _ rfl LA ?_)
  go_loopw [3, 10] (fun c iv wr => ∃ k : Nat, k ≤ 128 ∧ iv = .int .i64 (k : Int) ∧ c = .int .i64 (cntP P k : Nat) ∧ wr = w) (fun _ iv _ => 128 - (intOf iv).toNat)
  case atStart => exact ⟨0, Nat.zero_le _, rfl, rfl, rfl⟩
  case round =>
    clear LA
    obtain ⟨k, hk, rfl, rfl, rfl⟩ := hrel
    by_cases hk8 : k < 128
    · have gk : (k : Int) < 128 := by omega
      have gk0 : (0 : Int) ≤ (k : Int) := by omega
      have wk : IntKind.i64.wrap ((k : Int) + 1) = ((k + 1 : Nat) : Int) := by rw [IntKind.wrap_i64]; omega
      have cl := cntP_le P k
      have wc : IntKind.i64.wrap ((cntP P k : Nat) + 1 : Int) = (cntP P k : Nat) + 1 := w64 _ (by omega) (by omega)
      obtain ⟨o, ho⟩ : ∃ o, P[k]? = some o := ⟨_, List.getElem?_eq_getElem (by have := LL.out; omega)⟩
      have IX := indexA wr P LL.out k o ho
      have CS : Hid (cntP P (k + 1) = cntP P k + (if o.isSome = true then 1 else 0)) := cntP_succ ho
      cases o with
      | none =>
        rw [ptO] at IX
        clear ho
        go_wp2_with fail
        exact ⟨⟨k + 1, by omega, by go_num, by rw [CS.out]; rfl, trivial⟩, by simp [intOf]; omega⟩
      | some b =>
        rw [ptO, pt] at IX
        clear ho
        go_wp2_with fail
        exact ⟨⟨k + 1, by omega, by go_num, by rw [CS.out]; simp, trivial⟩, by simp [intOf]; omega⟩
    · obtain rfl : k = 128 := by omega
      go_wp2_with fail
      go_ret
      exact ⟨rfl, rfl⟩
#print axioms each_tick
#print axioms each_due
#print axioms count_any
end Go.Proofs.Ytjdfacjfpdfafaa
