/-
  The walks of commands: leads, Command and Commanded, the program's; the document's isCommand, Command and Commanded.
-/
import Derived.Test.YtjfjfohabpjemaaHa
import Derived.BigQuiet
namespace Go.Proofs.Ytjfjfohabpjemaa
open Go.RowKit

theorem cl11 {W W' : World} {p : Addr} {v : Value} (hb : Below W.heap.size W W') (h : W.cell? p = some v) : W'.cell? p = some v := (hb.cell (p := p) (block_lt_of_cell h)).trans h
theorem cla11 {W : World} {o : Obj} {p : Addr} {v : Value} (h : W.cell? p = some v) : (W.alloc o).cell? p = some v := cl11 (Below.al (Below.refl _ _) o) h
theorem frC_at {w : World} {B : Nat} {i n d0 d1 d2 d3 d4 d5 d6 d7 : Int} {r : Bool} (h : w.heap[B]? = some (.cells (frC i n d0 d1 d2 d3 d4 d5 d6 d7 r) 36 (0, 0))) : w.cell? ⟨B, 0, none⟩ = some (.int .u16 i) ∧ w.cell? ⟨B, 1, none⟩ = some (.int .i64 n) ∧ w.cell? ⟨B, 2, none⟩ = some (.int .u8 d0) ∧ w.cell? ⟨B, 3, none⟩ = some (.int .u8 d1) ∧ w.cell? ⟨B, 4, none⟩ = some (.int .u8 d2) ∧ w.cell? ⟨B, 5, none⟩ = some (.int .u8 d3) ∧ w.cell? ⟨B, 6, none⟩ = some (.int .u8 d4) ∧ w.cell? ⟨B, 7, none⟩ = some (.int .u8 d5) ∧ w.cell? ⟨B, 8, none⟩ = some (.int .u8 d6) ∧ w.cell? ⟨B, 9, none⟩ = some (.int .u8 d7) ∧ w.cell? ⟨B, 10, none⟩ = some (.bool r) := by
  refine ⟨?_, ?_, ?_, ?_, ?_, ?_, ?_, ?_, ?_, ?_, ?_⟩ <;> (rw [cell_of_row w B _ _ _ _ h]; rfl)
/-- No frame. -/
abbrev zeroF : Value := frV 0 0 0 0 0 0 0 0 0 0 false

/-- Is a number a command? -/
def cmdB (c : Int) : Bool := c == 1 || (c == 2 || (c == 128 || (c == 129 || c == 130)))
/-- The state that a command leads to. -/
def toC (c : Int) : Int := if c = 1 then 5 else if c = 2 then 4 else if c = 128 then 127 else 0
theorem cmdB_cases {c : Int} (h : cmdB c = true) : c = 1 ∨ c = 2 ∨ c = 128 ∨ c = 129 ∨ c = 130 := by
  simp [cmdB] at h; omega
theorem cmdB_no {c : Int} (h1 : ¬ c = 1) (h2 : ¬ c = 2) (h3 : ¬ c = 128) (h4 : ¬ c = 129) (h5 : ¬ c = 130) : cmdB c = false := by simp [cmdB, *]
theorem toC_no {c : Int} (h1 : ¬ c = 1) (h2 : ¬ c = 2) (h3 : ¬ c = 128) : toC c = 0 := by simp [toC, *]

set_option linter.unusedSimpArgs false in
set_option maxHeartbeats 4000000 in
set_option maxRecDepth 100000 in
theorem leads_any (c : Int) (w : World) : Calls Try.prog 26 #[.int .u8 c] w fun e w' => e = .returned (.tuple #[.int .u8 (toC c), .bool (cmdB c)]) ∧ w' = w := by
  by_cases h1 : c = 1
  · subst h1
    go_enter Try.func26, Try.ntmps26
    go_wp2_with fail
    exact bodyPost_ret (v := .tuple #[.int .u8 5, .bool true]) (by simp [results, Try.results26, go_sem]) rfl ⟨rfl, rfl⟩
  by_cases h2 : c = 2
  · subst h2
    go_enter Try.func26, Try.ntmps26
    go_wp2_with fail
    exact bodyPost_ret (v := .tuple #[.int .u8 4, .bool true]) (by simp [results, Try.results26, go_sem]) rfl ⟨rfl, rfl⟩
  by_cases h3 : c = 128
  · subst h3
    go_enter Try.func26, Try.ntmps26
    go_wp2_with fail
    exact bodyPost_ret (v := .tuple #[.int .u8 127, .bool true]) (by simp [results, Try.results26, go_sem]) rfl ⟨rfl, rfl⟩
  by_cases h4 : c = 129
  · subst h4
    go_enter Try.func26, Try.ntmps26
    go_wp2_with fail
    exact bodyPost_ret (v := .tuple #[.int .u8 0, .bool true]) (by simp [results, Try.results26, go_sem]) rfl ⟨rfl, rfl⟩
  by_cases h5 : c = 130
  · subst h5
    go_enter Try.func26, Try.ntmps26
    go_wp2_with fail
    exact bodyPost_ret (v := .tuple #[.int .u8 0, .bool true]) (by simp [results, Try.results26, go_sem]) rfl ⟨rfl, rfl⟩
  rw [cmdB_no h1 h2 h3 h4 h5, toC_no h1 h2 h3]
  go_enter Try.func26, Try.ntmps26
  go_wp2_with fail
  exact bodyPost_ret (v := .tuple #[.int .u8 0, .bool false]) (by simp [results, Try.results26, go_sem]) rfl ⟨rfl, rfl⟩

set_option linter.unusedSimpArgs false in
set_option maxHeartbeats 4000000 in
set_option maxRecDepth 100000 in
theorem isCommand_any (c : Int) (w : World) : Calls Try.prog 28 #[.int .u8 c] w fun e w' => e = .returned (.bool (cmdB c)) ∧ w' = w := by
  go_enter Try.func28, Try.ntmps28
  go_wp2_with fail
  all_goals (go_ret; exact ⟨ret_bool (by first | (simp [cmdB, *]; done) | (simp [cmdB, Bool.or_assoc]; done)), rfl⟩)

theorem row_two (W : World) (n0 n1 : Int) (h0 : 0 ≤ n0 ∧ n0 < 256) (h1 : 0 ≤ n1 ∧ n1 < 256) (k : Nat) (hk : k = W.heap.size) : Row (W.alloc (.cells #[.int .u8 n0, .int .u8 n1] 5)) (some ⟨k, 0, none⟩) 2 [n0, n1] := by
  subst hk
  exact row_lit _ _ _ [n0, n1] 2 rfl (fun m hm => by
    simp only [List.mem_cons, List.not_mem_nil, or_false] at hm
    rcases hm with rfl | rfl <;> assumption) rfl
theorem row_one (W : World) (n : Int) (hn : 0 ≤ n ∧ n < 256) (k : Nat) (hk : k = W.heap.size) : Row (W.alloc (.cells #[.int .u8 n] 5)) (some ⟨k, 0, none⟩) 1 [n] := by
  subst hk
  exact row_lit _ _ _ [n] 1 rfl (fun m hm => by rw [List.mem_singleton] at hm; rw [hm]; exact hn) rfl

/-- May such a command be sent? -/
def mayC (c a : Int) : Bool := cmdB c && decide (a ≤ 127)
theorem mkR_two (c a : Int) : mkR 0 [c, a] = ⟨0, 2, c, a, 0, 0, 0, 0, 0, 0, false, 0⟩ := by rw [mkR_good 0 [c, a] (by decide) (by simp)]; rfl
theorem mkR_one (id n : Int) (hi : id ≤ 2047) : mkR id [n] = ⟨id, 1, n, 0, 0, 0, 0, 0, 0, 0, false, 0⟩ := by rw [mkR_good id [n] hi (by simp)]; rfl

set_option linter.unusedSimpArgs false in
set_option maxHeartbeats 4000000 in
set_option maxRecDepth 100000 in
theorem command_no (c a : Int) (h : mayC c a = false) (w : World) : Calls Try.prog 15 #[.int .u8 c, .int .u8 a] w fun e w' => e = .returned (.tuple #[zeroF, .int .i64 2]) ∧ Below w.heap.size w w' := by
  have LD := fun W => leads_any c W
  cases hq : cmdB c with
  | false =>
    rw [hq] at LD
    clear h hq
    go_enter Try.func15, Try.ntmps15
    go_wp2_with fail
    refine (LD _).mono ?_
    rintro e w1 ⟨rfl, rfl⟩
    go_wp2_with fail
    exact bodyPost_ret (v := .tuple #[zeroF, .int .i64 2]) (by simp [results, Try.results15, go_sem]) rfl ⟨rfl, (by repeat (first | exact Below.refl _ _ | apply Below.drew | apply Below.al))⟩
  | true =>
    have ha : 127 < a := by simp [mayC, hq] at h; omega
    rw [hq] at LD
    clear h hq
    go_enter Try.func15, Try.ntmps15
    go_wp2_with fail
    refine (LD _).mono ?_
    rintro e w1 ⟨rfl, rfl⟩
    go_wp2_with fail
    exact bodyPost_ret (v := .tuple #[zeroF, .int .i64 2]) (by simp [results, Try.results15, go_sem]) rfl ⟨rfl, (by repeat (first | exact Below.refl _ _ | apply Below.drew | apply Below.al))⟩

set_option linter.unusedSimpArgs false in
set_option maxHeartbeats 4000000 in
set_option maxRecDepth 100000 in
theorem command_ok (c a : Int) (h : mayC c a = true) (hc : 0 ≤ c ∧ c < 256) (h0 : 0 ≤ a ∧ a < 256) (w : World) : Calls Try.prog 15 #[.int .u8 c, .int .u8 a] w fun e w' => e = .returned (.tuple #[frV 0 2 c a 0 0 0 0 0 0 false, .int .i64 0]) ∧ Below w.heap.size w w' := by
  have LD := fun W => leads_any c W
  obtain ⟨hq, ha⟩ : cmdB c = true ∧ ¬ 127 < a := by simp [mayC] at h; exact ⟨h.1, by omega⟩
  rw [hq] at LD
  clear h hq
  have MK := fun (W : World) (hr : Row W (some ⟨w.heap.size + 1, 0, none⟩) 2 [c, a]) => make_any 0 (some ⟨w.heap.size + 1, 0, none⟩) 2 2 _ W hr
  rw [mkR_two] at MK
  go_enter Try.func15, Try.ntmps15
  go_wp2_with fail
  refine (LD _).mono ?_
  rintro e w1 ⟨rfl, rfl⟩
  go_wp2_with fail
  refine (MK _ (row_two _ _ _ hc h0 _ (by simp))).mono ?_
  rintro e w1 ⟨rfl, hb⟩
  have B1 : Below w.heap.size w w1 := Below.andThen (by repeat (first | exact Below.refl _ _ | apply Below.drew | apply Below.al)) hb
  have hg : w1.heap[w.heap.size]? = some (.cells (frC 0 0 0 0 0 0 0 0 0 0 false) 36 (0, 0)) := (hb.block _ (by simp; omega)).trans (by repeat (first | exact at11 _ _ _ (by simp) | assumption | refine ext11 ?_))
  clear hb MK
  go_wp2_with (refine wpList_store_row rfl 36 _ _ rfl w.heap.size (frC 0 2 c a 0 0 0 0 0 0 false) rfl rfl 36 _ hg infoF rfl (frC_one _ _ _ _ _ _ _ _ _ _ _) ?_)
  have hc := fun j => cell_of_row (w1.setRow w.heap.size (frC 0 2 c a 0 0 0 0 0 0 false)) w.heap.size j _ _ _ (setRow_heap _ _ _ _ _ _ hg)
  refine bodyPost_ret (v := .tuple #[frV 0 2 c a 0 0 0 0 0 0 false, .int .i64 0]) ?_ rfl ⟨rfl, below_setRow B1 (Nat.le_refl _) _⟩
  simp [results, Try.results15, go_sem, hc]

set_option linter.unusedSimpArgs false in
set_option maxHeartbeats 4000000 in
set_option maxRecDepth 100000 in
theorem rcommand_no (c a : Int) (h : mayC c a = false) (w : World) : Calls Try.prog 16 #[.int .u8 c, .int .u8 a] w fun e w' => e = .returned (.tuple #[zeroF, .int .i64 2]) ∧ Below w.heap.size w w' := by
  have LD := fun W => isCommand_any c W
  cases hq : cmdB c with
  | false =>
    rw [hq] at LD
    clear h hq
    go_enter Try.func16, Try.ntmps16
    go_wp2_with fail
    refine (LD _).mono ?_
    rintro e w1 ⟨rfl, rfl⟩
    go_wp2_with fail
    exact bodyPost_ret (v := .tuple #[zeroF, .int .i64 2]) (by simp [results, Try.results16, go_sem]) rfl ⟨rfl, (by repeat (first | exact Below.refl _ _ | apply Below.drew | apply Below.al))⟩
  | true =>
    have ha : 127 < a := by simp [mayC, hq] at h; omega
    rw [hq] at LD
    clear h hq
    go_enter Try.func16, Try.ntmps16
    go_wp2_with fail
    refine (LD _).mono ?_
    rintro e w1 ⟨rfl, rfl⟩
    go_wp2_with fail
    exact bodyPost_ret (v := .tuple #[zeroF, .int .i64 2]) (by simp [results, Try.results16, go_sem]) rfl ⟨rfl, (by repeat (first | exact Below.refl _ _ | apply Below.drew | apply Below.al))⟩

set_option linter.unusedSimpArgs false in
set_option maxHeartbeats 4000000 in
set_option maxRecDepth 100000 in
theorem rcommand_ok (c a : Int) (h : mayC c a = true) (hc : 0 ≤ c ∧ c < 256) (h0 : 0 ≤ a ∧ a < 256) (w : World) : Calls Try.prog 16 #[.int .u8 c, .int .u8 a] w fun e w' => e = .returned (.tuple #[frV 0 2 c a 0 0 0 0 0 0 false, .int .i64 0]) ∧ Below w.heap.size w w' := by
  have LD := fun W => isCommand_any c W
  obtain ⟨hq, ha⟩ : cmdB c = true ∧ ¬ 127 < a := by simp [mayC] at h; exact ⟨h.1, by omega⟩
  rw [hq] at LD
  clear h hq
  have MK := fun (W : World) (hr : Row W (some ⟨w.heap.size + 1, 0, none⟩) 2 [c, a]) => refMake_any 0 (some ⟨w.heap.size + 1, 0, none⟩) 2 2 _ W hr
  rw [mkR_two] at MK
  go_enter Try.func16, Try.ntmps16
  go_wp2_with fail
  refine (LD _).mono ?_
  rintro e w1 ⟨rfl, rfl⟩
  go_wp2_with fail
  refine (MK _ (row_two _ _ _ hc h0 _ (by simp))).mono ?_
  rintro e w1 ⟨rfl, hb⟩
  have B1 : Below w.heap.size w w1 := Below.andThen (by repeat (first | exact Below.refl _ _ | apply Below.drew | apply Below.al)) hb
  have hg : w1.heap[w.heap.size]? = some (.cells (frC 0 0 0 0 0 0 0 0 0 0 false) 36 (0, 0)) := (hb.block _ (by simp; omega)).trans (by repeat (first | exact at11 _ _ _ (by simp) | assumption | refine ext11 ?_))
  clear hb MK
  go_wp2_with (refine wpList_store_row rfl 36 _ _ rfl w.heap.size (frC 0 2 c a 0 0 0 0 0 0 false) rfl rfl 36 _ hg infoF rfl (frC_one _ _ _ _ _ _ _ _ _ _ _) ?_)
  have hc := fun j => cell_of_row (w1.setRow w.heap.size (frC 0 2 c a 0 0 0 0 0 0 false)) w.heap.size j _ _ _ (setRow_heap _ _ _ _ _ _ hg)
  refine bodyPost_ret (v := .tuple #[frV 0 2 c a 0 0 0 0 0 0 false, .int .i64 0]) ?_ rfl ⟨rfl, below_setRow B1 (Nat.le_refl _) _⟩
  simp [results, Try.results16, go_sem, hc]
#print axioms rcommand_ok
end Go.Proofs.Ytjfjfohabpjemaa
