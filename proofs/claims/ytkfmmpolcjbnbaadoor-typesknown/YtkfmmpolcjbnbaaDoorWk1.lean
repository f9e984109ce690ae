/-
  The walks of reading the text 3p-1 as a float of 4 bytes, step by step: what works asks.
  The walks of reading the text 3p-1 as a float of 4 bytes, further.
  The walk of Value at the text 3p-1 as a float of 4 bytes, and of Text at -2: what works asks.
  The walk of Value at the text 3p-1 as a float of 4 bytes: what works asks.
-/
import Derived.Test.YtkfmmpolcjbnbaaDoorChkW
import Derived.Test.YtkfmmpolcjbnbaaDoorTogS
import Derived.Defers
import Derived.Recover
import Derived.Test.YtkfmmpolcjbnbaaDoorMade
namespace Go.Proofs.YtkfmmpolcjbnbaaDoor
open Pl Go.RowKit

theorem must_true (w : World) : Calls Tryd.prog 56 #[.bool true] w fun e w' => e = .returned (.tuple #[]) ∧ w' = w := by
  go_enter Tryd.func56, Tryd.ntmps56
  go_wp2
  go_end0
  exact ⟨rfl, rfl⟩


set_option maxRecDepth 100000 in
set_option maxHeartbeats 1000000 in
theorem decimal_51 (w : World) :
    Calls Tryd.prog 58 #[.string ⟨#[51]⟩, .int .u64 18446744073709551615] w fun e w' => e = .returned (.int .u64 3) ∧ w' = w := by
  go_enter Tryd.func58, Tryd.ntmps58
  go_wp2_with fail
  refine (must_true _).mono ?_
  rintro e w' ⟨rfl, rfl⟩
  go_wp2_with fail
  go_loop [5, 22] (fun n i => (i = .int .i64 0 ∧ n = .int .u64 0) ∨ (i = .int .i64 1 ∧ n = .int .u64 3)) (fun _ i => (1 - intOf i).toNat)
  case atStart => exact .inl ⟨rfl, rfl⟩
  case round =>
    rcases hrel with ⟨rfl, rfl⟩ | ⟨rfl, rfl⟩
    · go_wp2_with fail
      refine (must_true _).mono ?_
      rintro e w' ⟨rfl, rfl⟩
      go_wp2_with fail
      refine (must_true _).mono ?_
      rintro e w' ⟨rfl, rfl⟩
      go_wp2_with fail
      exact ⟨.inr ⟨rfl, rfl⟩, by decide⟩
    · go_wp2_with fail
      go_ret
      exact ⟨rfl, rfl⟩

set_option maxRecDepth 100000 in
set_option maxHeartbeats 1000000 in
theorem decimal_49 (w : World) :
    Calls Tryd.prog 58 #[.string ⟨#[49]⟩, .int .u64 9999] w fun e w' => e = .returned (.int .u64 1) ∧ w' = w := by
  go_enter Tryd.func58, Tryd.ntmps58
  go_wp2_with fail
  refine (must_true _).mono ?_
  rintro e w' ⟨rfl, rfl⟩
  go_wp2_with fail
  go_loop [5, 22] (fun n i => (i = .int .i64 0 ∧ n = .int .u64 0) ∨ (i = .int .i64 1 ∧ n = .int .u64 1)) (fun _ i => (1 - intOf i).toNat)
  case atStart => exact .inl ⟨rfl, rfl⟩
  case round =>
    rcases hrel with ⟨rfl, rfl⟩ | ⟨rfl, rfl⟩
    · go_wp2_with fail
      refine (must_true _).mono ?_
      rintro e w' ⟨rfl, rfl⟩
      go_wp2_with fail
      refine (must_true _).mono ?_
      rintro e w' ⟨rfl, rfl⟩
      go_wp2_with fail
      exact ⟨.inr ⟨rfl, rfl⟩, by decide⟩
    · go_wp2_with fail
      go_ret
      exact ⟨rfl, rfl⟩
end Go.Proofs.YtkfmmpolcjbnbaaDoor
namespace Go.Proofs.YtkfmmpolcjbnbaaDoor
open Pl Go.RowKit

theorem cutPrefix_minus (w : World) : Calls Tryd.prog 57 #[.string ⟨#[45, 49]⟩, .string ⟨#[45]⟩] w fun e w' => e = .returned (.tuple #[.string ⟨#[49]⟩, .bool true]) ∧ w' = w :=
  Tryd.strings_CutPrefix ⟨#[45, 49]⟩ ⟨#[45]⟩ w
theorem cutPrefix_nan (w : World) : Calls Tryd.prog 57 #[.string ⟨#[51, 112, 45, 49]⟩, .string ⟨#[110, 97, 110, 58]⟩] w fun e w' => e = .returned (.tuple #[.string ⟨#[51, 112, 45, 49]⟩, .bool false]) ∧ w' = w :=
  Tryd.strings_CutPrefix ⟨#[51, 112, 45, 49]⟩ ⟨#[110, 97, 110, 58]⟩ w
theorem cutPrefix_none (w : World) : Calls Tryd.prog 57 #[.string ⟨#[51, 112, 45, 49]⟩, .string ⟨#[45]⟩] w fun e w' => e = .returned (.tuple #[.string ⟨#[51, 112, 45, 49]⟩, .bool false]) ∧ w' = w :=
  Tryd.strings_CutPrefix ⟨#[51, 112, 45, 49]⟩ ⟨#[45]⟩ w
theorem index_p (w : World) : Calls Tryd.prog 94 #[.string ⟨#[51, 112, 45, 49]⟩, .string ⟨#[112]⟩] w fun e w' => e = .returned (.int .i64 1) ∧ w' = w :=
  Tryd.stringslite_Index_one ⟨#[51, 112, 45, 49]⟩ 112 w

theorem cut_p (w : World) : Calls Tryd.prog 81 #[.string ⟨#[51, 112, 45, 49]⟩, .string ⟨#[112]⟩] w fun e w' => e = .returned (.tuple #[.string ⟨#[51]⟩, .string ⟨#[45, 49]⟩, .bool true]) ∧ Below w.heap.size w w' := by
  go_enter Tryd.func81, Tryd.ntmps81
  go_wp2_with fail
  refine (index_p _).mono ?_
  rintro e w' ⟨rfl, rfl⟩
  go_wp2_with fail
  go_quiet (fail)
  go_wp2_with fail
  go_ret3
  exact ⟨rfl, below_drewN (Below.refl _ _) _⟩
theorem strCut_p (w : World) : Calls Tryd.prog 63 #[.string ⟨#[51, 112, 45, 49]⟩, .string ⟨#[112]⟩] w fun e w' => e = .returned (.tuple #[.string ⟨#[51]⟩, .string ⟨#[45, 49]⟩, .bool true]) ∧ Below w.heap.size w w' := by
  go_enter Tryd.func63, Tryd.ntmps63
  go_wp2_with fail
  refine (cut_p _).mono ?_
  rintro e w' ⟨rfl, hb⟩
  go_wp2_with fail
  go_ret3
  exact ⟨rfl, hb⟩

theorem signed_minus1 (w : World) : Calls Tryd.prog 34 #[.string ⟨#[45, 49]⟩, .int .u64 9999, .int .u64 9999] w fun e w' => e = .returned (.int .u64 18446744073709551615) ∧ w' = w := by
  go_enter Tryd.func34, Tryd.ntmps34
  go_wp2_with fail
  refine (cutPrefix_minus _).mono ?_
  rintro e w' ⟨rfl, rfl⟩
  go_wp2_with fail
  refine (decimal_49 _).mono ?_
  rintro e w' ⟨rfl, rfl⟩
  go_wp2_with fail
  refine (must_true _).mono ?_
  rintro e w' ⟨rfl, rfl⟩
  go_wp2_with fail
  go_ret
  exact ⟨rfl, rfl⟩

/-- 3 times 2^-1 as a float of 4 bytes: 1069547520, that is 0 0 192 63. -/
theorem together_3 (w : World) (hT : Tab64 w) : Calls Tryd.prog 68 #[.agg #[.int .i64 23, .int .i64 127], .int .u64 3, .int .i64 (-1)] w fun r w' => r = .returned (.tuple #[.int .u64 1069547520, .bool true]) ∧ Below w.heap.size w w' := by
  refine (togetherHigh32 3 (-1) 3 0 2 148 w ⟨by decide, by decide, by decide, by decide, by decide, by decide, by decide⟩ hT (by decide) (by decide) (by decide) (by decide) (by decide) (by decide) (by decide)).mono ?_
  rintro r w' ⟨rfl, hb⟩
  exact ⟨rfl, hb⟩
end Go.Proofs.YtkfmmpolcjbnbaaDoor
namespace Go.Proofs.YtkfmmpolcjbnbaaDoor
open Pl Go.RowKit

set_option maxHeartbeats 2000000 in
set_option maxRecDepth 100000 in
theorem readSize_3 (w : World) (hT : Tab64 w) : Calls Tryd.prog 61 #[.string ⟨#[51, 112, 45, 49]⟩, .agg #[.int .i64 23, .int .i64 127]] w fun r w' => r = .returned (.int .u64 1069547520) ∧ Below w.heap.size w w' := by
  have old := hT.old
  go_enter Tryd.func61, Tryd.ntmps61
  go_wp2_with fail
  refine (strCut_p _).mono ?_
  rintro e w1 ⟨rfl, hb1⟩
  have B1 : Below w.heap.size w w1 := Below.andThen (Below.al (Below.refl _ _) _) hb1
  have c0 : w1.cell? ⟨w.heap.size, 0, none⟩ = some (.int .i64 23) := (hb1.cell (by simp)).trans (by simp [go_sem])
  have c1 : w1.cell? ⟨w.heap.size, 1, none⟩ = some (.int .i64 127) := (hb1.cell (by simp)).trans (by simp [go_sem])
  clear hb1
  go_wp2_with fail
  refine (must_true _).mono ?_
  rintro e w' ⟨rfl, rfl⟩
  go_wp2_with fail
  refine (signed_minus1 _).mono ?_
  rintro e w' ⟨rfl, rfl⟩
  go_wp2_with fail
  rw [show wrap64 18446744073709551615 = -1 from by simp [wrap64]]
  go_region_held3 (fun x => x.cell? ⟨w.heap.size, 0, none⟩ = some (.int .i64 23) ∧ x.cell? ⟨w.heap.size, 1, none⟩ = some (.int .i64 127))
    (first | exact ⟨c0, c1⟩ | exact ⟨(hb2.cell (block_lt_of_cell c0)).trans c0, (hb2.cell (block_lt_of_cell c1)).trans c1⟩)
    (first | ((go_at_call 58; refine (decimal_51 _).mono ?_; rintro e x ⟨rfl, rfl⟩)) | ((go_at_call 68; refine (together_3 _ (hT.below (Below.drew B1) old)).mono ?_; rintro e w2 ⟨rfl, hb2⟩)))
  all_goals go_wp2_with fail
  all_goals
    refine (must_true _).mono ?_
    rintro e x ⟨rfl, rfl⟩
    go_wp2_with fail
    go_ret
    exact ⟨rfl, Below.andThen (Below.drew B1) hb2⟩

set_option maxHeartbeats 2000000 in
set_option maxRecDepth 100000 in
theorem readFloat_3 (w : World) (hT : Tab64 w) : Calls Tryd.prog 36 #[.string ⟨#[51, 112, 45, 49]⟩, .int .i64 4] w fun r w' => r = .returned (.int .u64 1069547520) ∧ Below w.heap.size w w' := by
  have old := hT.old
  go_enter Tryd.func36, Tryd.ntmps36
  go_wp2_with fail
  refine (cutPrefix_nan _).mono ?_
  rintro e x ⟨rfl, rfl⟩
  go_wp2_with fail
  refine (cutPrefix_none _).mono ?_
  rintro e x ⟨rfl, rfl⟩
  go_wp2_with fail
  refine (layoutOf32 _).mono ?_
  rintro e w1 ⟨rfl, rfl⟩
  go_wp2_with fail
  refine (readSize_3 _ (hT.below (Below.al (Below.refl _ _) _) old)).mono ?_
  rintro e w2 ⟨rfl, hb⟩
  go_wp2_with fail
  go_ret
  exact ⟨rfl, Below.andThen (Below.al (Below.refl _ _) _) hb⟩

set_option maxHeartbeats 2000000 in
set_option maxRecDepth 100000 in
theorem readValue_3 (w : World) (hT : Tab64 w) : Calls Tryd.prog 18 #[.int .u8 4, .int .i64 4, .string ⟨#[51, 112, 45, 49]⟩] w fun r w' => ∃ g : Nat, r = .returned (.slice (some ⟨g, 0, none⟩) 4 4) ∧ w.heap.size ≤ g ∧ Row w' (some ⟨g, 0, none⟩) 4 [0, 0, 192, 63] ∧ Below w.heap.size w w' := by
  go_enter Tryd.func18, Tryd.ntmps18
  go_wp2_with fail
  refine (readFloat_3 _ hT).mono ?_
  rintro e w1 ⟨rfl, hb⟩
  go_wp2_with fail
  refine (bytesOf_any 1069547520 4 _ (by decide) (by decide)).mono ?_
  rintro e w2 ⟨v, rfl, hf⟩
  obtain ⟨hr, rfl, _, hb2⟩ := hf
  go_wp2_with fail
  go_ret
  exact ⟨w1.heap.size, rfl, hb.size, hr, Below.andThen hb hb2⟩
end Go.Proofs.YtkfmmpolcjbnbaaDoor
namespace Go.Proofs.YtkfmmpolcjbnbaaDoor
open Pl Go.RowKit

theorem catch_idle (p q : Addr) (w : World) :
    CallsD Tryd.prog 17 #[.pointer (some p), .pointer (some q)] .returning w fun e u' w' => e = .returned (.tuple #[]) ∧ u' = .returning ∧ w' = w := by
  refine callsD_of_wpS Tryd.func17 rfl fun c₀ cs hu => ?_
  apply wpS_seq
  apply wpS_region
  simp [wpOpsS, go_sem, recoverD, hu, Tryd.ntmps17, Exit.thenS]
  refine wpS_cond (t := false) (by simp [Act.eval, Array.replicate]) ?_
  simp only [Bool.false_eq_true, if_false]
  refine wpS_of_wp (wp_skip ?_)
  cases c₀
  simp_all [bodyPostS, results, Tryd.results17]

set_option maxHeartbeats 2000000 in
set_option maxRecDepth 100000 in
theorem value_3 (w : World) (hT : Tab64 w) : Calls Tryd.prog 8 #[.int .u8 8, .string ⟨#[51, 112, 45, 49]⟩] w fun r w' => ∃ g : Nat, r = .returned (.tuple #[.slice (some ⟨g, 0, none⟩) 4 4, .int .i64 0]) ∧ Row w' (some ⟨g, 0, none⟩) 4 [0, 0, 192, 63] ∧ Below w.heap.size w w' := by
  have hmf : ∀ (fn : Fn) (first cap : Array Value) (w : World), (Instr.makeFunc fn first cap).run Tryd.prog w = .ok (.func fn first cap) w := fun _ _ _ _ => rfl
  have old := hT.old
  go_enter_defers Tryd.func8, Tryd.ntmps8
  go_wp2_with fail
  refine (kindOf_any _ _).mono ?_
  rw [show kindN 8 = 4 from by decide, show sizeN 8 = 4 from by decide]
  rintro e x ⟨rfl, rfl⟩
  go_wp2_with fail
  refine (readValue_3 _ (hT.below (Below.al (Below.al (Below.refl _ _) _) _) old)).mono ?_
  rintro e w1 ⟨g, rfl, hg, hr, hb⟩
  have B1 : Below w.heap.size w w1 := Below.andThen (Below.al (Below.al (Below.refl _ _) _) _) hb
  have c0 : w1.cell? ⟨w.heap.size, 0, none⟩ = some (.slice none 0 0) := (hb.cell (by simp <;> omega)).trans (by simp [go_sem])
  have c1 : w1.cell? ⟨w.heap.size + 1, 0, none⟩ = some (.int .i64 0) := (hb.cell (by simp <;> omega)).trans (by simp [go_sem])
  have z0 : w1.frozen? ⟨w.heap.size, 0, none⟩ = false := (hb.frozen (by simp <;> omega)).trans (by simp [go_sem])
  have z1 : w1.frozen? ⟨w.heap.size + 1, 0, none⟩ = false := (hb.frozen (by simp <;> omega)).trans (by simp [go_sem])
  have hg' : w.heap.size + 1 < g := by simp at hg; omega
  clear hb
  go_wp2_with fail
  refine leaves_cons (f := 17) (args := #[.pointer (some ⟨w.heap.size, 0, none⟩), .pointer (some ⟨w.heap.size + 1, 0, none⟩)]) (by simp) (by simp [go_sem]) ?_
  refine (catch_idle _ _ _).mono ?_
  rintro e u' w'' ⟨rfl, rfl, rfl⟩
  have ne : (⟨w.heap.size, 0, none⟩ : Addr) ≠ ⟨w.heap.size + 1, 0, none⟩ := fun h => by have := congrArg Addr.block h; simp at this
  have q0 : ((w1.setCell ⟨w.heap.size, 0, none⟩ (.slice (some ⟨g, 0, none⟩) 4 4)).setCell ⟨w.heap.size + 1, 0, none⟩ (.int .i64 0)).cell? ⟨w.heap.size, 0, none⟩ = some (.slice (some ⟨g, 0, none⟩) 4 4) := by
    rw [World.cell?_setCell_other _ _ _ _ ne.symm]; exact World.cell?_setCell_same _ _ _ c0
  have q1 : ((w1.setCell ⟨w.heap.size, 0, none⟩ (.slice (some ⟨g, 0, none⟩) 4 4)).setCell ⟨w.heap.size + 1, 0, none⟩ (.int .i64 0)).cell? ⟨w.heap.size + 1, 0, none⟩ = some (.int .i64 0) :=
    World.cell?_setCell_same _ _ _ ((World.cell?_setCell_other _ _ _ _ ne).trans c1)
  have B2 : Below w.heap.size w ((w1.setCell ⟨w.heap.size, 0, none⟩ (.slice (some ⟨g, 0, none⟩) 4 4)).setCell ⟨w.heap.size + 1, 0, none⟩ (.int .i64 0)) :=
    (B1.setCell (by exact Nat.le_refl _) _).setCell (by exact Nat.le_succ _) _
  have r2 : Row ((w1.setCell ⟨w.heap.size, 0, none⟩ (.slice (some ⟨g, 0, none⟩) 4 4)).setCell ⟨w.heap.size + 1, 0, none⟩ (.int .i64 0)) (some ⟨g, 0, none⟩) 4 [0, 0, 192, 63] := by
    obtain ⟨h1, h2, h3⟩ := hr
    refine ⟨h1, h2, fun hp => ?_⟩
    obtain ⟨b, off, e, hc⟩ := h3 hp
    refine ⟨b, off, e, fun i hi => ?_⟩
    cases e
    rw [World.cell?_setCell_other _ _ _ _ (fun h => by have := congrArg Addr.block h; simp at this; omega), World.cell?_setCell_other _ _ _ _ (fun h => by have := congrArg Addr.block h; simp at this; omega)]
    exact hc i hi
  generalize ((w1.setCell ⟨w.heap.size, 0, none⟩ (.slice (some ⟨g, 0, none⟩) 4 4)).setCell ⟨w.heap.size + 1, 0, none⟩ (.int .i64 0)) = W2 at q0 q1 B2 r2 ⊢
  simp [Leaves, settle, results, Tryd.results8, go_sem, q0, q1]
  exact ⟨r2, B2⟩
end Go.Proofs.YtkfmmpolcjbnbaaDoor
