/-
  The walk of the document's whole, of numbers with a sign.
-/
import Derived.Test.YtkfmmpolcjbnbaaGreatDoorVn1
import Derived.Test.YtkfmmpolcjbnbaaGreatDoorVn3
namespace Go.Proofs.YtkfmmpolcjbnbaaGreatDoor
open Pl Go.RowKit

theorem sgn_int (t : Int) (l : List UInt8) (s : Nat) (hs : sizeN t = (s : Int)) (hk : kindN t = 2) : intV t l = (sgnV (2 ^ (8 * s - 1)) (2 ^ (8 * s - 1) - 1) l).map fun n : Nat => bytesL (n : Int) s := by
  unfold intV
  rw [if_pos hk, hs, Int.toNat_natCast]
  generalize sgnV (2 ^ (8 * s - 1)) (2 ^ (8 * s - 1) - 1) l = o
  cases o <;> rfl

set_option linter.unusedSimpArgs false in
set_option maxHeartbeats 4000000 in
set_option maxRecDepth 100000 in
theorem wholeI1 (t : Int) (l : List UInt8) (w : World) (hk : kindN t = 2) (hs : sizeN t = 1) (hl : l.length ≤ 1000000) :
    Calls Tryz.prog 34 #[.int .u8 t, .string (str l)] w (RefTo w (intV t l)) := by
  have hlt : letN t = 105 := by unfold letN; rw [hk]; rfl
  have hS := fun w => refSize_any t w
  have hKd := fun w => refKind_any t w
  rw [hs] at hS
  rw [hlt] at hKd
  have hM := fun w => minusD_any l w
  have IV : intV t l = (sgnV 128 (128 - 1) l).map fun n : Nat => bytesL (n : Int) 1 := sgn_int t l 1 hs hk
  rw [IV]
  unfold sgnV
  unfold minT at hM
  by_cases hh : l.head? = some 45
  · rw [if_pos hh, decV_most 128 (by decide)]
    rw [if_pos hh] at hM
    have hN := fun w => refNumberD_any l.tail w (by rw [List.length_tail]; omega)
    have DM := fun n h => decV_max l.tail n h
    clear IV hh hlt
    generalize str l = sl at *
    generalize str l.tail = st at *
    generalize decV 18446744073709551615 l.tail = v at *
    cases v with
    | none =>
      replace hN : ∀ w : World, Calls Tryz.prog 37 #[.string st] w fun e w' => e = .returned (.tuple #[.int .u64 0, .bool false]) ∧ w' = w := hN
      show Calls _ _ _ _ (RefTo w none)
      clear DM
      go_enter Tryz.func34, Tryz.ntmps34
      go_wp2_with fail
      refine (hS _).mono ?_
      rintro e w ⟨rfl, rfl⟩
      go_wp2_with fail
      refine (hKd _).mono ?_
      rintro e w ⟨rfl, rfl⟩
      go_wp2_with fail
      refine (hM _).mono ?_
      rintro e w ⟨rfl, rfl⟩
      go_wp2_with fail
      refine (hN _).mono ?_
      rintro e w ⟨rfl, rfl⟩
      go_wp2_with fail
      refine wp_region_held_drew (S := fun x => Below w.heap.size w x) (by kernel_rfl) (Below.drew (Below.refl _ _)) (fun hHeld => ?_)
      refine tk 0 (.int .u64 0) rfl (.inl ⟨by rfl, ?_⟩) ?_
      · intro _ h; (try dsimp only at h); go_simp <;> first | decide | assumption
      try simp only [Act.put, gA, gS, gZ, sA, sZ, sS]
      refine tk 1 (.int .u64 0) rfl (.inl ⟨by rfl, ?_⟩) ?_
      · intro _ h; (try dsimp only at h); go_simp <;> first | decide | assumption
      try simp only [Act.put, gA, gS, gZ, sA, sZ, sS]
      refine tk 2 (.int .i64 1) rfl (.inl ⟨by rfl, ?_⟩) ?_
      · intro _ h; (try dsimp only at h); go_simp <;> first | decide | assumption
      try simp only [Act.put, gA, gS, gZ, sA, sZ, sS]
      refine tk 4 (.bool false) rfl (.inl ⟨by rfl, ?_⟩) ?_
      · intro _ h; (try dsimp only at h); go_simp <;> first | decide | assumption
      try simp only [Act.put, gA, gS, gZ, sA, sZ, sS]
      refine wpAnyH_ready (rs := [3]) (by kernel_rfl) (by simp) ?_
      refine AllReadyH.cons rfl (fun K' hK => ?_) AllReadyH.nil
      rw [if_pos (by rfl)]
      simp only [List.getElem_toArray, List.getElem_cons_succ, List.getElem_cons_zero]
      go_wp2_with fail
      refine (bytesD_any (0) 1 _ (by decide)).mono ?_
      rintro e z ⟨⟨ba, bc, rfl, ht⟩, hbx⟩
      try go_wp2_with fail
      refine hK.out _ _ (Below.andThen hHeld hbx) (fun hHeld => ?_)
      clear hK K'
      try simp only [Act.put, gA, gS, gZ, sA, sZ, sS]
      refine tk 5 (.bool false) rfl (.inl ⟨by rfl, ?_⟩) ?_
      · intro _ h; (try dsimp only at h); go_simp <;> first | decide | assumption
      try simp only [Act.put, gA, gS, gZ, sA, sZ, sS]
      refine tk 6 undef rfl (.inr ⟨by rfl, rfl⟩) ?_
      try simp only [Act.put, gA, gS, gZ, sA, sZ, sS]
      refine tk 7 undef rfl (.inr ⟨by rfl, rfl⟩) ?_
      try simp only [Act.put, gA, gS, gZ, sA, sZ, sS]
      refine tk 8 (.bool false) rfl (.inl ⟨by rfl, ?_⟩) ?_
      · intro _ h; (try dsimp only at h); go_simp <;> first | decide | assumption
      try simp only [Act.put, gA, gS, gZ, sA, sZ, sS]
      refine tk 9 (.bool false) rfl (.inl ⟨by rfl, ?_⟩) ?_
      · intro _ h; (try dsimp only at h); go_simp <;> first | decide | assumption
      try simp only [Act.put, gA, gS, gZ, sA, sZ, sS]
      refine tk 10 undef rfl (.inr ⟨by rfl, rfl⟩) ?_
      try simp only [Act.put, gA, gS, gZ, sA, sZ, sS]
      refine tk 11 undef rfl (.inr ⟨by rfl, rfl⟩) ?_
      try simp only [Act.put, gA, gS, gZ, sA, sZ, sS]
      refine tk 12 undef rfl (.inr ⟨by rfl, rfl⟩) ?_
      try simp only [Act.put, gA, gS, gZ, sA, sZ, sS]
      refine tk 13 undef rfl (.inr ⟨by rfl, rfl⟩) ?_
      try simp only [Act.put, gA, gS, gZ, sA, sZ, sS]
      refine tk 14 undef rfl (.inr ⟨by rfl, rfl⟩) ?_
      try simp only [Act.put, gA, gS, gZ, sA, sZ, sS]
      refine tk 15 (.bool false) rfl (.inl ⟨by rfl, ?_⟩) ?_
      · intro _ h; (try dsimp only at h); go_simp <;> first | decide | assumption
      try simp only [Act.put, gA, gS, gZ, sA, sZ, sS]
      refine tk 16 (.slice ba 1 bc) rfl (.inl ⟨by rfl, ?_⟩) ?_
      · intro _ h; (try dsimp only at h); go_simp <;> first | decide | assumption
      try simp only [Act.put, gA, gS, gZ, sA, sZ, sS]
      refine tk 17 (.bool false) rfl (.inl ⟨by rfl, ?_⟩) ?_
      · intro _ h; (try dsimp only at h); go_simp <;> first | decide | assumption
      try simp only [Act.put, gA, gS, gZ, sA, sZ, sS]
      refine wpAnyH_done (by kernel_rfl) ?_ _
      go_wp2_with fail
      go_ret2
      exact ⟨⟨_, rfl⟩, hHeld⟩
    | some n =>
      replace hN : ∀ w : World, Calls Tryz.prog 37 #[.string st] w fun e w' => e = .returned (.tuple #[.int .u64 (n : Int), .bool true]) ∧ w' = w := hN
      have nm := DM n rfl
      clear DM
      by_cases h0 : n = 0
      · subst h0
        show Calls _ _ _ _ (RefTo w none)
        go_enter Tryz.func34, Tryz.ntmps34
        go_wp2_with fail
        refine (hS _).mono ?_
        rintro e w ⟨rfl, rfl⟩
        go_wp2_with fail
        refine (hKd _).mono ?_
        rintro e w ⟨rfl, rfl⟩
        go_wp2_with fail
        refine (hM _).mono ?_
        rintro e w ⟨rfl, rfl⟩
        go_wp2_with fail
        refine (hN _).mono ?_
        rintro e w ⟨rfl, rfl⟩
        go_wp2_with fail
        refine wp_region_held_drew (S := fun x => Below w.heap.size w x) (by kernel_rfl) (Below.drew (Below.refl _ _)) (fun hHeld => ?_)
        refine tk 0 (.int .u64 0) rfl (.inl ⟨by rfl, ?_⟩) ?_
        · intro _ h; (try dsimp only at h); go_simp <;> first | decide | assumption
        try simp only [Act.put, gA, gS, gZ, sA, sZ, sS]
        refine tk 1 (.int .u64 0) rfl (.inl ⟨by rfl, ?_⟩) ?_
        · intro _ h; (try dsimp only at h); go_simp <;> first | decide | assumption
        try simp only [Act.put, gA, gS, gZ, sA, sZ, sS]
        refine tk 2 (.int .i64 1) rfl (.inl ⟨by rfl, ?_⟩) ?_
        · intro _ h; (try dsimp only at h); go_simp <;> first | decide | assumption
        try simp only [Act.put, gA, gS, gZ, sA, sZ, sS]
        refine tk 4 (.bool true) rfl (.inl ⟨by rfl, ?_⟩) ?_
        · intro _ h; (try dsimp only at h); go_simp <;> first | decide | assumption
        try simp only [Act.put, gA, gS, gZ, sA, sZ, sS]
        refine wpAnyH_ready (rs := [3]) (by kernel_rfl) (by simp) ?_
        refine AllReadyH.cons rfl (fun K' hK => ?_) AllReadyH.nil
        rw [if_pos (by rfl)]
        simp only [List.getElem_toArray, List.getElem_cons_succ, List.getElem_cons_zero]
        go_wp2_with fail
        refine (bytesD_any (0) 1 _ (by decide)).mono ?_
        rintro e z ⟨⟨ba, bc, rfl, ht⟩, hbx⟩
        try go_wp2_with fail
        refine hK.out _ _ (Below.andThen hHeld hbx) (fun hHeld => ?_)
        clear hK K'
        try simp only [Act.put, gA, gS, gZ, sA, sZ, sS]
        refine tk 5 (.bool true) rfl (.inl ⟨by rfl, ?_⟩) ?_
        · intro _ h; (try dsimp only at h); go_simp <;> first | decide | assumption
        try simp only [Act.put, gA, gS, gZ, sA, sZ, sS]
        refine tk 6 (.int .u64 0) rfl (.inl ⟨by rfl, ?_⟩) ?_
        · intro _ h; (try dsimp only at h); go_simp <;> first | decide | assumption
        try simp only [Act.put, gA, gS, gZ, sA, sZ, sS]
        refine tk 7 (.bool false) rfl (.inl ⟨by rfl, ?_⟩) ?_
        · intro _ h; (try dsimp only at h); go_simp <;> first | decide | assumption
        try simp only [Act.put, gA, gS, gZ, sA, sZ, sS]
        refine tk 8 (.bool false) rfl (.inl ⟨by rfl, ?_⟩) ?_
        · intro _ h; (try dsimp only at h); go_simp <;> first | decide | assumption
        try simp only [Act.put, gA, gS, gZ, sA, sZ, sS]
        refine tk 9 (.bool false) rfl (.inl ⟨by rfl, ?_⟩) ?_
        · intro _ h; (try dsimp only at h); go_simp <;> first | decide | assumption
        try simp only [Act.put, gA, gS, gZ, sA, sZ, sS]
        refine tk 10 undef rfl (.inr ⟨by rfl, rfl⟩) ?_
        try simp only [Act.put, gA, gS, gZ, sA, sZ, sS]
        refine tk 11 undef rfl (.inr ⟨by rfl, rfl⟩) ?_
        try simp only [Act.put, gA, gS, gZ, sA, sZ, sS]
        refine tk 12 undef rfl (.inr ⟨by rfl, rfl⟩) ?_
        try simp only [Act.put, gA, gS, gZ, sA, sZ, sS]
        refine tk 13 undef rfl (.inr ⟨by rfl, rfl⟩) ?_
        try simp only [Act.put, gA, gS, gZ, sA, sZ, sS]
        refine tk 14 undef rfl (.inr ⟨by rfl, rfl⟩) ?_
        try simp only [Act.put, gA, gS, gZ, sA, sZ, sS]
        refine tk 15 (.bool false) rfl (.inl ⟨by rfl, ?_⟩) ?_
        · intro _ h; (try dsimp only at h); go_simp <;> first | decide | assumption
        try simp only [Act.put, gA, gS, gZ, sA, sZ, sS]
        refine tk 16 (.slice ba 1 bc) rfl (.inl ⟨by rfl, ?_⟩) ?_
        · intro _ h; (try dsimp only at h); go_simp <;> first | decide | assumption
        try simp only [Act.put, gA, gS, gZ, sA, sZ, sS]
        refine tk 17 (.bool false) rfl (.inl ⟨by rfl, ?_⟩) ?_
        · intro _ h; (try dsimp only at h); go_simp <;> first | decide | assumption
        try simp only [Act.put, gA, gS, gZ, sA, sZ, sS]
        refine wpAnyH_done (by kernel_rfl) ?_ _
        go_wp2_with fail
        go_ret2
        exact ⟨⟨_, rfl⟩, hHeld⟩
      have g0 : (0 : Int) < (n : Int) := by omega
      have g0n : 0 < n := by omega
      have wq : IntKind.u64.wrap (-(n : Int)) = ((18446744073709551616 - n : Nat) : Int) := by rw [IntKind.wrap_u64]; omega
      have wq' : IntKind.u64.wrap (0 - (n : Int)) = ((18446744073709551616 - n : Nat) : Int) := by rw [IntKind.wrap_u64]; omega
      by_cases hle : n ≤ 128
      · have GLE : ∀ _ : Unit, (n : Int) ≤ 128 := fun _ => by omega
        show Calls _ _ _ _ (RefTo w (Option.map (fun n : Nat => bytesL (n : Int) 1) (Option.bind (if n ≤ 128 then some n else none) fun n => if n = 0 then none else some (18446744073709551616 - n))))
        rw [if_pos hle]
        show Calls _ _ _ _ (RefTo w (Option.map (fun n : Nat => bytesL (n : Int) 1) (if n = 0 then none else some (18446744073709551616 - n))))
        rw [if_neg h0]
        show Calls _ _ _ _ (RefTo w (some (bytesL ((18446744073709551616 - n : Nat) : Int) 1)))
        clear hle h0 nm
        generalize 18446744073709551616 - n = q at *
        obtain ⟨R, HR⟩ : ∃ R, Hid (some (bytesL (q : Int) 1) = R) := ⟨_, rfl⟩
        rw [HR.out]
        go_enter Tryz.func34, Tryz.ntmps34
        go_wp2_with fail
        refine (hS _).mono ?_
        rintro e w ⟨rfl, rfl⟩
        go_wp2_with fail
        refine (hKd _).mono ?_
        rintro e w ⟨rfl, rfl⟩
        go_wp2_with fail
        refine (hM _).mono ?_
        rintro e w ⟨rfl, rfl⟩
        go_wp2_with fail
        refine (hN _).mono ?_
        rintro e w ⟨rfl, rfl⟩
        go_wp2_with fail
        have gle := GLE ()
        refine wp_region_held_drew (S := fun x => Below w.heap.size w x) (by kernel_rfl) (Below.drew (Below.refl _ _)) (fun hHeld => ?_)
        refine tk 0 (.int .u64 (n : Int)) rfl (.inl ⟨by rfl, ?_⟩) ?_
        · intro _ h; (try dsimp only at h); go_simp <;> first | decide | assumption
        try simp only [Act.put, gA, gS, gZ, sA, sZ, sS]
        refine tk 1 (.int .u64 (q : Int)) rfl (.inl ⟨by rfl, ?_⟩) ?_
        · intro _ h; (try dsimp only at h); go_simp <;> first | decide | assumption
        try simp only [Act.put, gA, gS, gZ, sA, sZ, sS]
        refine tk 2 (.int .i64 1) rfl (.inl ⟨by rfl, ?_⟩) ?_
        · intro _ h; (try dsimp only at h); go_simp <;> first | decide | assumption
        try simp only [Act.put, gA, gS, gZ, sA, sZ, sS]
        refine tk 4 (.bool true) rfl (.inl ⟨by rfl, ?_⟩) ?_
        · intro _ h; (try dsimp only at h); go_simp <;> first | decide | assumption
        try simp only [Act.put, gA, gS, gZ, sA, sZ, sS]
        refine wpAnyH_ready (rs := [3]) (by kernel_rfl) (by simp) ?_
        refine AllReadyH.cons rfl (fun K' hK => ?_) AllReadyH.nil
        rw [if_pos (by rfl)]
        simp only [List.getElem_toArray, List.getElem_cons_succ, List.getElem_cons_zero]
        go_wp2_with fail
        refine (bytesD_any ((q : Int)) 1 _ (by decide)).mono ?_
        rintro e z ⟨⟨ba, bc, rfl, ht⟩, hbx⟩
        try go_wp2_with fail
        have hb0 := hHeld
        refine hK.out _ _ (Below.andThen hHeld hbx) (fun hHeld => ?_)
        clear hK K'
        try simp only [Act.put, gA, gS, gZ, sA, sZ, sS]
        refine tk 5 (.bool true) rfl (.inl ⟨by rfl, ?_⟩) ?_
        · intro _ h; (try dsimp only at h); go_simp <;> first | decide | assumption
        try simp only [Act.put, gA, gS, gZ, sA, sZ, sS]
        refine tk 6 (.int .u64 (n : Int)) rfl (.inl ⟨by rfl, ?_⟩) ?_
        · intro _ h; (try dsimp only at h); go_simp <;> first | decide | assumption
        try simp only [Act.put, gA, gS, gZ, sA, sZ, sS]
        refine tk 7 (.bool true) rfl (.inl ⟨by rfl, ?_⟩) ?_
        · intro _ h; (try dsimp only at h); go_simp <;> first | decide | assumption
        try simp only [Act.put, gA, gS, gZ, sA, sZ, sS]
        refine tk 8 (.bool true) rfl (.inl ⟨by rfl, ?_⟩) ?_
        · intro _ h; (try dsimp only at h); go_simp <;> first | decide | assumption
        try simp only [Act.put, gA, gS, gZ, sA, sZ, sS]
        refine tk 9 (.bool true) rfl (.inl ⟨by rfl, ?_⟩) ?_
        · intro _ h; (try dsimp only at h); go_simp <;> first | decide | assumption
        try simp only [Act.put, gA, gS, gZ, sA, sZ, sS]
        refine tk 10 (.int .u64 (n : Int)) rfl (.inl ⟨by rfl, ?_⟩) ?_
        · intro _ h; (try dsimp only at h); go_simp <;> first | decide | assumption
        try simp only [Act.put, gA, gS, gZ, sA, sZ, sS]
        refine tk 11 (.int .i64 8) rfl (.inl ⟨by rfl, ?_⟩) ?_
        · intro _ h; (try dsimp only at h); go_simp <;> first | decide | assumption
        try simp only [Act.put, gA, gS, gZ, sA, sZ, sS]
        refine tk 12 (.int .i64 7) rfl (.inl ⟨by rfl, ?_⟩) ?_
        · intro _ h; (try dsimp only at h); go_simp <;> first | decide | assumption
        try simp only [Act.put, gA, gS, gZ, sA, sZ, sS]
        refine tk 13 (.int .u64 128) rfl (.inl ⟨by rfl, ?_⟩) ?_
        · intro _ h; (try dsimp only at h); go_simp <;> first | decide | assumption
        try simp only [Act.put, gA, gS, gZ, sA, sZ, sS]
        refine tk 14 (.bool true) rfl (.inl ⟨by rfl, ?_⟩) ?_
        · intro _ h; (try dsimp only at h); go_simp <;> first | decide | assumption
        try simp only [Act.put, gA, gS, gZ, sA, sZ, sS]
        refine tk 15 (.bool true) rfl (.inl ⟨by rfl, ?_⟩) ?_
        · intro _ h; (try dsimp only at h); go_simp <;> first | decide | assumption
        try simp only [Act.put, gA, gS, gZ, sA, sZ, sS]
        refine tk 16 (.slice ba 1 bc) rfl (.inl ⟨by rfl, ?_⟩) ?_
        · intro _ h; (try dsimp only at h); go_simp <;> first | decide | assumption
        try simp only [Act.put, gA, gS, gZ, sA, sZ, sS]
        refine tk 17 (.bool true) rfl (.inl ⟨by rfl, ?_⟩) ?_
        · intro _ h; (try dsimp only at h); go_simp <;> first | decide | assumption
        try simp only [Act.put, gA, gS, gZ, sA, sZ, sS]
        refine wpAnyH_done (by kernel_rfl) ?_ _
        go_wp2_with fail
        go_ret2
        rw [← HR.out]
        exact ⟨⟨_, _, _, rfl, ⟨ht.row, ht.le, ht.max, fun hp => by obtain ⟨g, e1, e2, e3⟩ := ht.own hp; exact ⟨g, e1, Nat.le_trans hb0.size e2, e3⟩⟩⟩, hHeld⟩
      · have GLE : ∀ _ : Unit, ¬ (n : Int) ≤ 128 := fun _ => by omega
        show Calls _ _ _ _ (RefTo w (Option.map (fun n : Nat => bytesL (n : Int) 1) (Option.bind (if n ≤ 128 then some n else none) fun n => if n = 0 then none else some (18446744073709551616 - n))))
        rw [if_neg hle]
        show Calls _ _ _ _ (RefTo w none)
        clear hle h0 nm
        generalize 18446744073709551616 - n = q at *
        go_enter Tryz.func34, Tryz.ntmps34
        go_wp2_with fail
        refine (hS _).mono ?_
        rintro e w ⟨rfl, rfl⟩
        go_wp2_with fail
        refine (hKd _).mono ?_
        rintro e w ⟨rfl, rfl⟩
        go_wp2_with fail
        refine (hM _).mono ?_
        rintro e w ⟨rfl, rfl⟩
        go_wp2_with fail
        refine (hN _).mono ?_
        rintro e w ⟨rfl, rfl⟩
        go_wp2_with fail
        have gle := GLE ()
        refine wp_region_held_drew (S := fun x => Below w.heap.size w x) (by kernel_rfl) (Below.drew (Below.refl _ _)) (fun hHeld => ?_)
        refine tk 0 (.int .u64 (n : Int)) rfl (.inl ⟨by rfl, ?_⟩) ?_
        · intro _ h; (try dsimp only at h); go_simp <;> first | decide | assumption
        try simp only [Act.put, gA, gS, gZ, sA, sZ, sS]
        refine tk 1 (.int .u64 (q : Int)) rfl (.inl ⟨by rfl, ?_⟩) ?_
        · intro _ h; (try dsimp only at h); go_simp <;> first | decide | assumption
        try simp only [Act.put, gA, gS, gZ, sA, sZ, sS]
        refine tk 2 (.int .i64 1) rfl (.inl ⟨by rfl, ?_⟩) ?_
        · intro _ h; (try dsimp only at h); go_simp <;> first | decide | assumption
        try simp only [Act.put, gA, gS, gZ, sA, sZ, sS]
        refine tk 4 (.bool true) rfl (.inl ⟨by rfl, ?_⟩) ?_
        · intro _ h; (try dsimp only at h); go_simp <;> first | decide | assumption
        try simp only [Act.put, gA, gS, gZ, sA, sZ, sS]
        refine wpAnyH_ready (rs := [3]) (by kernel_rfl) (by simp) ?_
        refine AllReadyH.cons rfl (fun K' hK => ?_) AllReadyH.nil
        rw [if_pos (by rfl)]
        simp only [List.getElem_toArray, List.getElem_cons_succ, List.getElem_cons_zero]
        go_wp2_with fail
        refine (bytesD_any ((q : Int)) 1 _ (by decide)).mono ?_
        rintro e z ⟨⟨ba, bc, rfl, ht⟩, hbx⟩
        try go_wp2_with fail
        refine hK.out _ _ (Below.andThen hHeld hbx) (fun hHeld => ?_)
        clear hK K'
        try simp only [Act.put, gA, gS, gZ, sA, sZ, sS]
        refine tk 5 (.bool true) rfl (.inl ⟨by rfl, ?_⟩) ?_
        · intro _ h; (try dsimp only at h); go_simp <;> first | decide | assumption
        try simp only [Act.put, gA, gS, gZ, sA, sZ, sS]
        refine tk 6 (.int .u64 (n : Int)) rfl (.inl ⟨by rfl, ?_⟩) ?_
        · intro _ h; (try dsimp only at h); go_simp <;> first | decide | assumption
        try simp only [Act.put, gA, gS, gZ, sA, sZ, sS]
        refine tk 7 (.bool true) rfl (.inl ⟨by rfl, ?_⟩) ?_
        · intro _ h; (try dsimp only at h); go_simp <;> first | decide | assumption
        try simp only [Act.put, gA, gS, gZ, sA, sZ, sS]
        refine tk 8 (.bool true) rfl (.inl ⟨by rfl, ?_⟩) ?_
        · intro _ h; (try dsimp only at h); go_simp <;> first | decide | assumption
        try simp only [Act.put, gA, gS, gZ, sA, sZ, sS]
        refine tk 9 (.bool true) rfl (.inl ⟨by rfl, ?_⟩) ?_
        · intro _ h; (try dsimp only at h); go_simp <;> first | decide | assumption
        try simp only [Act.put, gA, gS, gZ, sA, sZ, sS]
        refine tk 10 (.int .u64 (n : Int)) rfl (.inl ⟨by rfl, ?_⟩) ?_
        · intro _ h; (try dsimp only at h); go_simp <;> first | decide | assumption
        try simp only [Act.put, gA, gS, gZ, sA, sZ, sS]
        refine tk 11 (.int .i64 8) rfl (.inl ⟨by rfl, ?_⟩) ?_
        · intro _ h; (try dsimp only at h); go_simp <;> first | decide | assumption
        try simp only [Act.put, gA, gS, gZ, sA, sZ, sS]
        refine tk 12 (.int .i64 7) rfl (.inl ⟨by rfl, ?_⟩) ?_
        · intro _ h; (try dsimp only at h); go_simp <;> first | decide | assumption
        try simp only [Act.put, gA, gS, gZ, sA, sZ, sS]
        refine tk 13 (.int .u64 128) rfl (.inl ⟨by rfl, ?_⟩) ?_
        · intro _ h; (try dsimp only at h); go_simp <;> first | decide | assumption
        try simp only [Act.put, gA, gS, gZ, sA, sZ, sS]
        refine tk 14 (.bool false) rfl (.inl ⟨by rfl, ?_⟩) ?_
        · intro _ h; (try dsimp only at h); go_simp <;> first | decide | assumption
        try simp only [Act.put, gA, gS, gZ, sA, sZ, sS]
        refine tk 15 (.bool false) rfl (.inl ⟨by rfl, ?_⟩) ?_
        · intro _ h; (try dsimp only at h); go_simp <;> first | decide | assumption
        try simp only [Act.put, gA, gS, gZ, sA, sZ, sS]
        refine tk 16 (.slice ba 1 bc) rfl (.inl ⟨by rfl, ?_⟩) ?_
        · intro _ h; (try dsimp only at h); go_simp <;> first | decide | assumption
        try simp only [Act.put, gA, gS, gZ, sA, sZ, sS]
        refine tk 17 (.bool false) rfl (.inl ⟨by rfl, ?_⟩) ?_
        · intro _ h; (try dsimp only at h); go_simp <;> first | decide | assumption
        try simp only [Act.put, gA, gS, gZ, sA, sZ, sS]
        refine wpAnyH_done (by kernel_rfl) ?_ _
        go_wp2_with fail
        go_ret2
        exact ⟨⟨_, rfl⟩, hHeld⟩
  · rw [if_neg hh, decV_most (128 - 1) (by decide)]
    rw [if_neg hh] at hM
    have hN := fun w => refNumberD_any l w hl
    have DM := fun n h => decV_max l n h
    clear IV hh hlt
    generalize str l = sl at *
    generalize decV 18446744073709551615 l = v at *
    cases v with
    | none =>
      replace hN : ∀ w : World, Calls Tryz.prog 37 #[.string sl] w fun e w' => e = .returned (.tuple #[.int .u64 0, .bool false]) ∧ w' = w := hN
      show Calls _ _ _ _ (RefTo w none)
      clear DM
      go_enter Tryz.func34, Tryz.ntmps34
      go_wp2_with fail
      refine (hS _).mono ?_
      rintro e w ⟨rfl, rfl⟩
      go_wp2_with fail
      refine (hKd _).mono ?_
      rintro e w ⟨rfl, rfl⟩
      go_wp2_with fail
      refine (hM _).mono ?_
      rintro e w ⟨rfl, rfl⟩
      go_wp2_with fail
      refine (hN _).mono ?_
      rintro e w ⟨rfl, rfl⟩
      go_wp2_with fail
      refine wp_region_held_drew (S := fun x => Below w.heap.size w x) (by kernel_rfl) (Below.drew (Below.refl _ _)) (fun hHeld => ?_)
      refine tk 0 (.int .u64 0) rfl (.inl ⟨by rfl, ?_⟩) ?_
      · intro _ h; (try dsimp only at h); go_simp <;> first | decide | assumption
      try simp only [Act.put, gA, gS, gZ, sA, sZ, sS]
      refine tk 1 (.int .i64 1) rfl (.inl ⟨by rfl, ?_⟩) ?_
      · intro _ h; (try dsimp only at h); go_simp <;> first | decide | assumption
      try simp only [Act.put, gA, gS, gZ, sA, sZ, sS]
      refine tk 3 (.bool false) rfl (.inl ⟨by rfl, ?_⟩) ?_
      · intro _ h; (try dsimp only at h); go_simp <;> first | decide | assumption
      try simp only [Act.put, gA, gS, gZ, sA, sZ, sS]
      refine wpAnyH_ready (rs := [2]) (by kernel_rfl) (by simp) ?_
      refine AllReadyH.cons rfl (fun K' hK => ?_) AllReadyH.nil
      rw [if_pos (by rfl)]
      simp only [List.getElem_toArray, List.getElem_cons_succ, List.getElem_cons_zero]
      go_wp2_with fail
      refine (bytesD_any (0) 1 _ (by decide)).mono ?_
      rintro e z ⟨⟨ba, bc, rfl, ht⟩, hbx⟩
      try go_wp2_with fail
      refine hK.out _ _ (Below.andThen hHeld hbx) (fun hHeld => ?_)
      clear hK K'
      try simp only [Act.put, gA, gS, gZ, sA, sZ, sS]
      refine tk 4 (.bool false) rfl (.inl ⟨by rfl, ?_⟩) ?_
      · intro _ h; (try dsimp only at h); go_simp <;> first | decide | assumption
      try simp only [Act.put, gA, gS, gZ, sA, sZ, sS]
      refine tk 5 undef rfl (.inr ⟨by rfl, rfl⟩) ?_
      try simp only [Act.put, gA, gS, gZ, sA, sZ, sS]
      refine tk 6 undef rfl (.inr ⟨by rfl, rfl⟩) ?_
      try simp only [Act.put, gA, gS, gZ, sA, sZ, sS]
      refine tk 7 undef rfl (.inr ⟨by rfl, rfl⟩) ?_
      try simp only [Act.put, gA, gS, gZ, sA, sZ, sS]
      refine tk 8 undef rfl (.inr ⟨by rfl, rfl⟩) ?_
      try simp only [Act.put, gA, gS, gZ, sA, sZ, sS]
      refine tk 9 undef rfl (.inr ⟨by rfl, rfl⟩) ?_
      try simp only [Act.put, gA, gS, gZ, sA, sZ, sS]
      refine tk 10 (.bool false) rfl (.inl ⟨by rfl, ?_⟩) ?_
      · intro _ h; (try dsimp only at h); go_simp <;> first | decide | assumption
      try simp only [Act.put, gA, gS, gZ, sA, sZ, sS]
      refine tk 11 (.slice ba 1 bc) rfl (.inl ⟨by rfl, ?_⟩) ?_
      · intro _ h; (try dsimp only at h); go_simp <;> first | decide | assumption
      try simp only [Act.put, gA, gS, gZ, sA, sZ, sS]
      refine tk 12 (.bool false) rfl (.inl ⟨by rfl, ?_⟩) ?_
      · intro _ h; (try dsimp only at h); go_simp <;> first | decide | assumption
      try simp only [Act.put, gA, gS, gZ, sA, sZ, sS]
      refine wpAnyH_done (by kernel_rfl) ?_ _
      go_wp2_with fail
      go_ret2
      exact ⟨⟨_, rfl⟩, hHeld⟩
    | some n =>
      replace hN : ∀ w : World, Calls Tryz.prog 37 #[.string sl] w fun e w' => e = .returned (.tuple #[.int .u64 (n : Int), .bool true]) ∧ w' = w := hN
      have nm := DM n rfl
      clear DM
      by_cases hle : n ≤ 128 - 1
      · have GLE : ∀ _ : Unit, (n : Int) < 128 := fun _ => by omega
        show Calls _ _ _ _ (RefTo w (Option.map (fun n : Nat => bytesL (n : Int) 1) (if n ≤ 128 - 1 then some n else none)))
        rw [if_pos hle]
        show Calls _ _ _ _ (RefTo w (some (bytesL (n : Int) 1)))
        obtain ⟨R, HR⟩ : ∃ R, Hid (some (bytesL (n : Int) 1) = R) := ⟨_, rfl⟩
        rw [HR.out]
        clear hle nm
        go_enter Tryz.func34, Tryz.ntmps34
        go_wp2_with fail
        refine (hS _).mono ?_
        rintro e w ⟨rfl, rfl⟩
        go_wp2_with fail
        refine (hKd _).mono ?_
        rintro e w ⟨rfl, rfl⟩
        go_wp2_with fail
        refine (hM _).mono ?_
        rintro e w ⟨rfl, rfl⟩
        go_wp2_with fail
        refine (hN _).mono ?_
        rintro e w ⟨rfl, rfl⟩
        go_wp2_with fail
        have gle := GLE ()
        refine wp_region_held_drew (S := fun x => Below w.heap.size w x) (by kernel_rfl) (Below.drew (Below.refl _ _)) (fun hHeld => ?_)
        refine tk 0 (.int .u64 (n : Int)) rfl (.inl ⟨by rfl, ?_⟩) ?_
        · intro _ h; (try dsimp only at h); go_simp <;> first | decide | assumption
        try simp only [Act.put, gA, gS, gZ, sA, sZ, sS]
        refine tk 1 (.int .i64 1) rfl (.inl ⟨by rfl, ?_⟩) ?_
        · intro _ h; (try dsimp only at h); go_simp <;> first | decide | assumption
        try simp only [Act.put, gA, gS, gZ, sA, sZ, sS]
        refine tk 3 (.bool true) rfl (.inl ⟨by rfl, ?_⟩) ?_
        · intro _ h; (try dsimp only at h); go_simp <;> first | decide | assumption
        try simp only [Act.put, gA, gS, gZ, sA, sZ, sS]
        refine wpAnyH_ready (rs := [2]) (by kernel_rfl) (by simp) ?_
        refine AllReadyH.cons rfl (fun K' hK => ?_) AllReadyH.nil
        rw [if_pos (by rfl)]
        simp only [List.getElem_toArray, List.getElem_cons_succ, List.getElem_cons_zero]
        go_wp2_with fail
        refine (bytesD_any ((n : Int)) 1 _ (by decide)).mono ?_
        rintro e z ⟨⟨ba, bc, rfl, ht⟩, hbx⟩
        try go_wp2_with fail
        have hb0 := hHeld
        refine hK.out _ _ (Below.andThen hHeld hbx) (fun hHeld => ?_)
        clear hK K'
        try simp only [Act.put, gA, gS, gZ, sA, sZ, sS]
        refine tk 4 (.bool true) rfl (.inl ⟨by rfl, ?_⟩) ?_
        · intro _ h; (try dsimp only at h); go_simp <;> first | decide | assumption
        try simp only [Act.put, gA, gS, gZ, sA, sZ, sS]
        refine tk 5 (.int .u64 (n : Int)) rfl (.inl ⟨by rfl, ?_⟩) ?_
        · intro _ h; (try dsimp only at h); go_simp <;> first | decide | assumption
        try simp only [Act.put, gA, gS, gZ, sA, sZ, sS]
        refine tk 6 (.int .i64 8) rfl (.inl ⟨by rfl, ?_⟩) ?_
        · intro _ h; (try dsimp only at h); go_simp <;> first | decide | assumption
        try simp only [Act.put, gA, gS, gZ, sA, sZ, sS]
        refine tk 7 (.int .i64 7) rfl (.inl ⟨by rfl, ?_⟩) ?_
        · intro _ h; (try dsimp only at h); go_simp <;> first | decide | assumption
        try simp only [Act.put, gA, gS, gZ, sA, sZ, sS]
        refine tk 8 (.int .u64 128) rfl (.inl ⟨by rfl, ?_⟩) ?_
        · intro _ h; (try dsimp only at h); go_simp <;> first | decide | assumption
        try simp only [Act.put, gA, gS, gZ, sA, sZ, sS]
        refine tk 9 (.bool true) rfl (.inl ⟨by rfl, ?_⟩) ?_
        · intro _ h; (try dsimp only at h); go_simp <;> first | decide | assumption
        try simp only [Act.put, gA, gS, gZ, sA, sZ, sS]
        refine tk 10 (.bool true) rfl (.inl ⟨by rfl, ?_⟩) ?_
        · intro _ h; (try dsimp only at h); go_simp <;> first | decide | assumption
        try simp only [Act.put, gA, gS, gZ, sA, sZ, sS]
        refine tk 11 (.slice ba 1 bc) rfl (.inl ⟨by rfl, ?_⟩) ?_
        · intro _ h; (try dsimp only at h); go_simp <;> first | decide | assumption
        try simp only [Act.put, gA, gS, gZ, sA, sZ, sS]
        refine tk 12 (.bool true) rfl (.inl ⟨by rfl, ?_⟩) ?_
        · intro _ h; (try dsimp only at h); go_simp <;> first | decide | assumption
        try simp only [Act.put, gA, gS, gZ, sA, sZ, sS]
        refine wpAnyH_done (by kernel_rfl) ?_ _
        go_wp2_with fail
        go_ret2
        rw [← HR.out]
        exact ⟨⟨_, _, _, rfl, ⟨ht.row, ht.le, ht.max, fun hp => by obtain ⟨g, e1, e2, e3⟩ := ht.own hp; exact ⟨g, e1, Nat.le_trans hb0.size e2, e3⟩⟩⟩, hHeld⟩
      · have GLE : ∀ _ : Unit, ¬ (n : Int) < 128 := fun _ => by omega
        show Calls _ _ _ _ (RefTo w (Option.map (fun n : Nat => bytesL (n : Int) 1) (if n ≤ 128 - 1 then some n else none)))
        rw [if_neg hle]
        show Calls _ _ _ _ (RefTo w none)
        clear hle nm
        go_enter Tryz.func34, Tryz.ntmps34
        go_wp2_with fail
        refine (hS _).mono ?_
        rintro e w ⟨rfl, rfl⟩
        go_wp2_with fail
        refine (hKd _).mono ?_
        rintro e w ⟨rfl, rfl⟩
        go_wp2_with fail
        refine (hM _).mono ?_
        rintro e w ⟨rfl, rfl⟩
        go_wp2_with fail
        refine (hN _).mono ?_
        rintro e w ⟨rfl, rfl⟩
        go_wp2_with fail
        have gle := GLE ()
        refine wp_region_held_drew (S := fun x => Below w.heap.size w x) (by kernel_rfl) (Below.drew (Below.refl _ _)) (fun hHeld => ?_)
        refine tk 0 (.int .u64 (n : Int)) rfl (.inl ⟨by rfl, ?_⟩) ?_
        · intro _ h; (try dsimp only at h); go_simp <;> first | decide | assumption
        try simp only [Act.put, gA, gS, gZ, sA, sZ, sS]
        refine tk 1 (.int .i64 1) rfl (.inl ⟨by rfl, ?_⟩) ?_
        · intro _ h; (try dsimp only at h); go_simp <;> first | decide | assumption
        try simp only [Act.put, gA, gS, gZ, sA, sZ, sS]
        refine tk 3 (.bool true) rfl (.inl ⟨by rfl, ?_⟩) ?_
        · intro _ h; (try dsimp only at h); go_simp <;> first | decide | assumption
        try simp only [Act.put, gA, gS, gZ, sA, sZ, sS]
        refine wpAnyH_ready (rs := [2]) (by kernel_rfl) (by simp) ?_
        refine AllReadyH.cons rfl (fun K' hK => ?_) AllReadyH.nil
        rw [if_pos (by rfl)]
        simp only [List.getElem_toArray, List.getElem_cons_succ, List.getElem_cons_zero]
        go_wp2_with fail
        refine (bytesD_any ((n : Int)) 1 _ (by decide)).mono ?_
        rintro e z ⟨⟨ba, bc, rfl, ht⟩, hbx⟩
        try go_wp2_with fail
        refine hK.out _ _ (Below.andThen hHeld hbx) (fun hHeld => ?_)
        clear hK K'
        try simp only [Act.put, gA, gS, gZ, sA, sZ, sS]
        refine tk 4 (.bool true) rfl (.inl ⟨by rfl, ?_⟩) ?_
        · intro _ h; (try dsimp only at h); go_simp <;> first | decide | assumption
        try simp only [Act.put, gA, gS, gZ, sA, sZ, sS]
        refine tk 5 (.int .u64 (n : Int)) rfl (.inl ⟨by rfl, ?_⟩) ?_
        · intro _ h; (try dsimp only at h); go_simp <;> first | decide | assumption
        try simp only [Act.put, gA, gS, gZ, sA, sZ, sS]
        refine tk 6 (.int .i64 8) rfl (.inl ⟨by rfl, ?_⟩) ?_
        · intro _ h; (try dsimp only at h); go_simp <;> first | decide | assumption
        try simp only [Act.put, gA, gS, gZ, sA, sZ, sS]
        refine tk 7 (.int .i64 7) rfl (.inl ⟨by rfl, ?_⟩) ?_
        · intro _ h; (try dsimp only at h); go_simp <;> first | decide | assumption
        try simp only [Act.put, gA, gS, gZ, sA, sZ, sS]
        refine tk 8 (.int .u64 128) rfl (.inl ⟨by rfl, ?_⟩) ?_
        · intro _ h; (try dsimp only at h); go_simp <;> first | decide | assumption
        try simp only [Act.put, gA, gS, gZ, sA, sZ, sS]
        refine tk 9 (.bool false) rfl (.inl ⟨by rfl, ?_⟩) ?_
        · intro _ h; (try dsimp only at h); go_simp <;> first | decide | assumption
        try simp only [Act.put, gA, gS, gZ, sA, sZ, sS]
        refine tk 10 (.bool false) rfl (.inl ⟨by rfl, ?_⟩) ?_
        · intro _ h; (try dsimp only at h); go_simp <;> first | decide | assumption
        try simp only [Act.put, gA, gS, gZ, sA, sZ, sS]
        refine tk 11 (.slice ba 1 bc) rfl (.inl ⟨by rfl, ?_⟩) ?_
        · intro _ h; (try dsimp only at h); go_simp <;> first | decide | assumption
        try simp only [Act.put, gA, gS, gZ, sA, sZ, sS]
        refine tk 12 (.bool false) rfl (.inl ⟨by rfl, ?_⟩) ?_
        · intro _ h; (try dsimp only at h); go_simp <;> first | decide | assumption
        try simp only [Act.put, gA, gS, gZ, sA, sZ, sS]
        refine wpAnyH_done (by kernel_rfl) ?_ _
        go_wp2_with fail
        go_ret2
        exact ⟨⟨_, rfl⟩, hHeld⟩

set_option linter.unusedSimpArgs false in
set_option maxHeartbeats 4000000 in
set_option maxRecDepth 100000 in
theorem wholeI2 (t : Int) (l : List UInt8) (w : World) (hk : kindN t = 2) (hs : sizeN t = 2) (hl : l.length ≤ 1000000) :
    Calls Tryz.prog 34 #[.int .u8 t, .string (str l)] w (RefTo w (intV t l)) := by
  have hlt : letN t = 105 := by unfold letN; rw [hk]; rfl
  have hS := fun w => refSize_any t w
  have hKd := fun w => refKind_any t w
  rw [hs] at hS
  rw [hlt] at hKd
  have hM := fun w => minusD_any l w
  have IV : intV t l = (sgnV 32768 (32768 - 1) l).map fun n : Nat => bytesL (n : Int) 2 := sgn_int t l 2 hs hk
  rw [IV]
  unfold sgnV
  unfold minT at hM
  by_cases hh : l.head? = some 45
  · rw [if_pos hh, decV_most 32768 (by decide)]
    rw [if_pos hh] at hM
    have hN := fun w => refNumberD_any l.tail w (by rw [List.length_tail]; omega)
    have DM := fun n h => decV_max l.tail n h
    clear IV hh hlt
    generalize str l = sl at *
    generalize str l.tail = st at *
    generalize decV 18446744073709551615 l.tail = v at *
    cases v with
    | none =>
      replace hN : ∀ w : World, Calls Tryz.prog 37 #[.string st] w fun e w' => e = .returned (.tuple #[.int .u64 0, .bool false]) ∧ w' = w := hN
      show Calls _ _ _ _ (RefTo w none)
      clear DM
      go_enter Tryz.func34, Tryz.ntmps34
      go_wp2_with fail
      refine (hS _).mono ?_
      rintro e w ⟨rfl, rfl⟩
      go_wp2_with fail
      refine (hKd _).mono ?_
      rintro e w ⟨rfl, rfl⟩
      go_wp2_with fail
      refine (hM _).mono ?_
      rintro e w ⟨rfl, rfl⟩
      go_wp2_with fail
      refine (hN _).mono ?_
      rintro e w ⟨rfl, rfl⟩
      go_wp2_with fail
      refine wp_region_held_drew (S := fun x => Below w.heap.size w x) (by kernel_rfl) (Below.drew (Below.refl _ _)) (fun hHeld => ?_)
      refine tk 0 (.int .u64 0) rfl (.inl ⟨by rfl, ?_⟩) ?_
      · intro _ h; (try dsimp only at h); go_simp <;> first | decide | assumption
      try simp only [Act.put, gA, gS, gZ, sA, sZ, sS]
      refine tk 1 (.int .u64 0) rfl (.inl ⟨by rfl, ?_⟩) ?_
      · intro _ h; (try dsimp only at h); go_simp <;> first | decide | assumption
      try simp only [Act.put, gA, gS, gZ, sA, sZ, sS]
      refine tk 2 (.int .i64 2) rfl (.inl ⟨by rfl, ?_⟩) ?_
      · intro _ h; (try dsimp only at h); go_simp <;> first | decide | assumption
      try simp only [Act.put, gA, gS, gZ, sA, sZ, sS]
      refine tk 4 (.bool false) rfl (.inl ⟨by rfl, ?_⟩) ?_
      · intro _ h; (try dsimp only at h); go_simp <;> first | decide | assumption
      try simp only [Act.put, gA, gS, gZ, sA, sZ, sS]
      refine wpAnyH_ready (rs := [3]) (by kernel_rfl) (by simp) ?_
      refine AllReadyH.cons rfl (fun K' hK => ?_) AllReadyH.nil
      rw [if_pos (by rfl)]
      simp only [List.getElem_toArray, List.getElem_cons_succ, List.getElem_cons_zero]
      go_wp2_with fail
      refine (bytesD_any (0) 2 _ (by decide)).mono ?_
      rintro e z ⟨⟨ba, bc, rfl, ht⟩, hbx⟩
      try go_wp2_with fail
      refine hK.out _ _ (Below.andThen hHeld hbx) (fun hHeld => ?_)
      clear hK K'
      try simp only [Act.put, gA, gS, gZ, sA, sZ, sS]
      refine tk 5 (.bool false) rfl (.inl ⟨by rfl, ?_⟩) ?_
      · intro _ h; (try dsimp only at h); go_simp <;> first | decide | assumption
      try simp only [Act.put, gA, gS, gZ, sA, sZ, sS]
      refine tk 6 undef rfl (.inr ⟨by rfl, rfl⟩) ?_
      try simp only [Act.put, gA, gS, gZ, sA, sZ, sS]
      refine tk 7 undef rfl (.inr ⟨by rfl, rfl⟩) ?_
      try simp only [Act.put, gA, gS, gZ, sA, sZ, sS]
      refine tk 8 (.bool false) rfl (.inl ⟨by rfl, ?_⟩) ?_
      · intro _ h; (try dsimp only at h); go_simp <;> first | decide | assumption
      try simp only [Act.put, gA, gS, gZ, sA, sZ, sS]
      refine tk 9 (.bool false) rfl (.inl ⟨by rfl, ?_⟩) ?_
      · intro _ h; (try dsimp only at h); go_simp <;> first | decide | assumption
      try simp only [Act.put, gA, gS, gZ, sA, sZ, sS]
      refine tk 10 undef rfl (.inr ⟨by rfl, rfl⟩) ?_
      try simp only [Act.put, gA, gS, gZ, sA, sZ, sS]
      refine tk 11 undef rfl (.inr ⟨by rfl, rfl⟩) ?_
      try simp only [Act.put, gA, gS, gZ, sA, sZ, sS]
      refine tk 12 undef rfl (.inr ⟨by rfl, rfl⟩) ?_
      try simp only [Act.put, gA, gS, gZ, sA, sZ, sS]
      refine tk 13 undef rfl (.inr ⟨by rfl, rfl⟩) ?_
      try simp only [Act.put, gA, gS, gZ, sA, sZ, sS]
      refine tk 14 undef rfl (.inr ⟨by rfl, rfl⟩) ?_
      try simp only [Act.put, gA, gS, gZ, sA, sZ, sS]
      refine tk 15 (.bool false) rfl (.inl ⟨by rfl, ?_⟩) ?_
      · intro _ h; (try dsimp only at h); go_simp <;> first | decide | assumption
      try simp only [Act.put, gA, gS, gZ, sA, sZ, sS]
      refine tk 16 (.slice ba 2 bc) rfl (.inl ⟨by rfl, ?_⟩) ?_
      · intro _ h; (try dsimp only at h); go_simp <;> first | decide | assumption
      try simp only [Act.put, gA, gS, gZ, sA, sZ, sS]
      refine tk 17 (.bool false) rfl (.inl ⟨by rfl, ?_⟩) ?_
      · intro _ h; (try dsimp only at h); go_simp <;> first | decide | assumption
      try simp only [Act.put, gA, gS, gZ, sA, sZ, sS]
      refine wpAnyH_done (by kernel_rfl) ?_ _
      go_wp2_with fail
      go_ret2
      exact ⟨⟨_, rfl⟩, hHeld⟩
    | some n =>
      replace hN : ∀ w : World, Calls Tryz.prog 37 #[.string st] w fun e w' => e = .returned (.tuple #[.int .u64 (n : Int), .bool true]) ∧ w' = w := hN
      have nm := DM n rfl
      clear DM
      by_cases h0 : n = 0
      · subst h0
        show Calls _ _ _ _ (RefTo w none)
        go_enter Tryz.func34, Tryz.ntmps34
        go_wp2_with fail
        refine (hS _).mono ?_
        rintro e w ⟨rfl, rfl⟩
        go_wp2_with fail
        refine (hKd _).mono ?_
        rintro e w ⟨rfl, rfl⟩
        go_wp2_with fail
        refine (hM _).mono ?_
        rintro e w ⟨rfl, rfl⟩
        go_wp2_with fail
        refine (hN _).mono ?_
        rintro e w ⟨rfl, rfl⟩
        go_wp2_with fail
        refine wp_region_held_drew (S := fun x => Below w.heap.size w x) (by kernel_rfl) (Below.drew (Below.refl _ _)) (fun hHeld => ?_)
        refine tk 0 (.int .u64 0) rfl (.inl ⟨by rfl, ?_⟩) ?_
        · intro _ h; (try dsimp only at h); go_simp <;> first | decide | assumption
        try simp only [Act.put, gA, gS, gZ, sA, sZ, sS]
        refine tk 1 (.int .u64 0) rfl (.inl ⟨by rfl, ?_⟩) ?_
        · intro _ h; (try dsimp only at h); go_simp <;> first | decide | assumption
        try simp only [Act.put, gA, gS, gZ, sA, sZ, sS]
        refine tk 2 (.int .i64 2) rfl (.inl ⟨by rfl, ?_⟩) ?_
        · intro _ h; (try dsimp only at h); go_simp <;> first | decide | assumption
        try simp only [Act.put, gA, gS, gZ, sA, sZ, sS]
        refine tk 4 (.bool true) rfl (.inl ⟨by rfl, ?_⟩) ?_
        · intro _ h; (try dsimp only at h); go_simp <;> first | decide | assumption
        try simp only [Act.put, gA, gS, gZ, sA, sZ, sS]
        refine wpAnyH_ready (rs := [3]) (by kernel_rfl) (by simp) ?_
        refine AllReadyH.cons rfl (fun K' hK => ?_) AllReadyH.nil
        rw [if_pos (by rfl)]
        simp only [List.getElem_toArray, List.getElem_cons_succ, List.getElem_cons_zero]
        go_wp2_with fail
        refine (bytesD_any (0) 2 _ (by decide)).mono ?_
        rintro e z ⟨⟨ba, bc, rfl, ht⟩, hbx⟩
        try go_wp2_with fail
        refine hK.out _ _ (Below.andThen hHeld hbx) (fun hHeld => ?_)
        clear hK K'
        try simp only [Act.put, gA, gS, gZ, sA, sZ, sS]
        refine tk 5 (.bool true) rfl (.inl ⟨by rfl, ?_⟩) ?_
        · intro _ h; (try dsimp only at h); go_simp <;> first | decide | assumption
        try simp only [Act.put, gA, gS, gZ, sA, sZ, sS]
        refine tk 6 (.int .u64 0) rfl (.inl ⟨by rfl, ?_⟩) ?_
        · intro _ h; (try dsimp only at h); go_simp <;> first | decide | assumption
        try simp only [Act.put, gA, gS, gZ, sA, sZ, sS]
        refine tk 7 (.bool false) rfl (.inl ⟨by rfl, ?_⟩) ?_
        · intro _ h; (try dsimp only at h); go_simp <;> first | decide | assumption
        try simp only [Act.put, gA, gS, gZ, sA, sZ, sS]
        refine tk 8 (.bool false) rfl (.inl ⟨by rfl, ?_⟩) ?_
        · intro _ h; (try dsimp only at h); go_simp <;> first | decide | assumption
        try simp only [Act.put, gA, gS, gZ, sA, sZ, sS]
        refine tk 9 (.bool false) rfl (.inl ⟨by rfl, ?_⟩) ?_
        · intro _ h; (try dsimp only at h); go_simp <;> first | decide | assumption
        try simp only [Act.put, gA, gS, gZ, sA, sZ, sS]
        refine tk 10 undef rfl (.inr ⟨by rfl, rfl⟩) ?_
        try simp only [Act.put, gA, gS, gZ, sA, sZ, sS]
        refine tk 11 undef rfl (.inr ⟨by rfl, rfl⟩) ?_
        try simp only [Act.put, gA, gS, gZ, sA, sZ, sS]
        refine tk 12 undef rfl (.inr ⟨by rfl, rfl⟩) ?_
        try simp only [Act.put, gA, gS, gZ, sA, sZ, sS]
        refine tk 13 undef rfl (.inr ⟨by rfl, rfl⟩) ?_
        try simp only [Act.put, gA, gS, gZ, sA, sZ, sS]
        refine tk 14 undef rfl (.inr ⟨by rfl, rfl⟩) ?_
        try simp only [Act.put, gA, gS, gZ, sA, sZ, sS]
        refine tk 15 (.bool false) rfl (.inl ⟨by rfl, ?_⟩) ?_
        · intro _ h; (try dsimp only at h); go_simp <;> first | decide | assumption
        try simp only [Act.put, gA, gS, gZ, sA, sZ, sS]
        refine tk 16 (.slice ba 2 bc) rfl (.inl ⟨by rfl, ?_⟩) ?_
        · intro _ h; (try dsimp only at h); go_simp <;> first | decide | assumption
        try simp only [Act.put, gA, gS, gZ, sA, sZ, sS]
        refine tk 17 (.bool false) rfl (.inl ⟨by rfl, ?_⟩) ?_
        · intro _ h; (try dsimp only at h); go_simp <;> first | decide | assumption
        try simp only [Act.put, gA, gS, gZ, sA, sZ, sS]
        refine wpAnyH_done (by kernel_rfl) ?_ _
        go_wp2_with fail
        go_ret2
        exact ⟨⟨_, rfl⟩, hHeld⟩
      have g0 : (0 : Int) < (n : Int) := by omega
      have g0n : 0 < n := by omega
      have wq : IntKind.u64.wrap (-(n : Int)) = ((18446744073709551616 - n : Nat) : Int) := by rw [IntKind.wrap_u64]; omega
      have wq' : IntKind.u64.wrap (0 - (n : Int)) = ((18446744073709551616 - n : Nat) : Int) := by rw [IntKind.wrap_u64]; omega
      by_cases hle : n ≤ 32768
      · have GLE : ∀ _ : Unit, (n : Int) ≤ 32768 := fun _ => by omega
        show Calls _ _ _ _ (RefTo w (Option.map (fun n : Nat => bytesL (n : Int) 2) (Option.bind (if n ≤ 32768 then some n else none) fun n => if n = 0 then none else some (18446744073709551616 - n))))
        rw [if_pos hle]
        show Calls _ _ _ _ (RefTo w (Option.map (fun n : Nat => bytesL (n : Int) 2) (if n = 0 then none else some (18446744073709551616 - n))))
        rw [if_neg h0]
        show Calls _ _ _ _ (RefTo w (some (bytesL ((18446744073709551616 - n : Nat) : Int) 2)))
        clear hle h0 nm
        generalize 18446744073709551616 - n = q at *
        obtain ⟨R, HR⟩ : ∃ R, Hid (some (bytesL (q : Int) 2) = R) := ⟨_, rfl⟩
        rw [HR.out]
        go_enter Tryz.func34, Tryz.ntmps34
        go_wp2_with fail
        refine (hS _).mono ?_
        rintro e w ⟨rfl, rfl⟩
        go_wp2_with fail
        refine (hKd _).mono ?_
        rintro e w ⟨rfl, rfl⟩
        go_wp2_with fail
        refine (hM _).mono ?_
        rintro e w ⟨rfl, rfl⟩
        go_wp2_with fail
        refine (hN _).mono ?_
        rintro e w ⟨rfl, rfl⟩
        go_wp2_with fail
        have gle := GLE ()
        refine wp_region_held_drew (S := fun x => Below w.heap.size w x) (by kernel_rfl) (Below.drew (Below.refl _ _)) (fun hHeld => ?_)
        refine tk 0 (.int .u64 (n : Int)) rfl (.inl ⟨by rfl, ?_⟩) ?_
        · intro _ h; (try dsimp only at h); go_simp <;> first | decide | assumption
        try simp only [Act.put, gA, gS, gZ, sA, sZ, sS]
        refine tk 1 (.int .u64 (q : Int)) rfl (.inl ⟨by rfl, ?_⟩) ?_
        · intro _ h; (try dsimp only at h); go_simp <;> first | decide | assumption
        try simp only [Act.put, gA, gS, gZ, sA, sZ, sS]
        refine tk 2 (.int .i64 2) rfl (.inl ⟨by rfl, ?_⟩) ?_
        · intro _ h; (try dsimp only at h); go_simp <;> first | decide | assumption
        try simp only [Act.put, gA, gS, gZ, sA, sZ, sS]
        refine tk 4 (.bool true) rfl (.inl ⟨by rfl, ?_⟩) ?_
        · intro _ h; (try dsimp only at h); go_simp <;> first | decide | assumption
        try simp only [Act.put, gA, gS, gZ, sA, sZ, sS]
        refine wpAnyH_ready (rs := [3]) (by kernel_rfl) (by simp) ?_
        refine AllReadyH.cons rfl (fun K' hK => ?_) AllReadyH.nil
        rw [if_pos (by rfl)]
        simp only [List.getElem_toArray, List.getElem_cons_succ, List.getElem_cons_zero]
        go_wp2_with fail
        refine (bytesD_any ((q : Int)) 2 _ (by decide)).mono ?_
        rintro e z ⟨⟨ba, bc, rfl, ht⟩, hbx⟩
        try go_wp2_with fail
        have hb0 := hHeld
        refine hK.out _ _ (Below.andThen hHeld hbx) (fun hHeld => ?_)
        clear hK K'
        try simp only [Act.put, gA, gS, gZ, sA, sZ, sS]
        refine tk 5 (.bool true) rfl (.inl ⟨by rfl, ?_⟩) ?_
        · intro _ h; (try dsimp only at h); go_simp <;> first | decide | assumption
        try simp only [Act.put, gA, gS, gZ, sA, sZ, sS]
        refine tk 6 (.int .u64 (n : Int)) rfl (.inl ⟨by rfl, ?_⟩) ?_
        · intro _ h; (try dsimp only at h); go_simp <;> first | decide | assumption
        try simp only [Act.put, gA, gS, gZ, sA, sZ, sS]
        refine tk 7 (.bool true) rfl (.inl ⟨by rfl, ?_⟩) ?_
        · intro _ h; (try dsimp only at h); go_simp <;> first | decide | assumption
        try simp only [Act.put, gA, gS, gZ, sA, sZ, sS]
        refine tk 8 (.bool true) rfl (.inl ⟨by rfl, ?_⟩) ?_
        · intro _ h; (try dsimp only at h); go_simp <;> first | decide | assumption
        try simp only [Act.put, gA, gS, gZ, sA, sZ, sS]
        refine tk 9 (.bool true) rfl (.inl ⟨by rfl, ?_⟩) ?_
        · intro _ h; (try dsimp only at h); go_simp <;> first | decide | assumption
        try simp only [Act.put, gA, gS, gZ, sA, sZ, sS]
        refine tk 10 (.int .u64 (n : Int)) rfl (.inl ⟨by rfl, ?_⟩) ?_
        · intro _ h; (try dsimp only at h); go_simp <;> first | decide | assumption
        try simp only [Act.put, gA, gS, gZ, sA, sZ, sS]
        refine tk 11 (.int .i64 16) rfl (.inl ⟨by rfl, ?_⟩) ?_
        · intro _ h; (try dsimp only at h); go_simp <;> first | decide | assumption
        try simp only [Act.put, gA, gS, gZ, sA, sZ, sS]
        refine tk 12 (.int .i64 15) rfl (.inl ⟨by rfl, ?_⟩) ?_
        · intro _ h; (try dsimp only at h); go_simp <;> first | decide | assumption
        try simp only [Act.put, gA, gS, gZ, sA, sZ, sS]
        refine tk 13 (.int .u64 32768) rfl (.inl ⟨by rfl, ?_⟩) ?_
        · intro _ h; (try dsimp only at h); go_simp <;> first | decide | assumption
        try simp only [Act.put, gA, gS, gZ, sA, sZ, sS]
        refine tk 14 (.bool true) rfl (.inl ⟨by rfl, ?_⟩) ?_
        · intro _ h; (try dsimp only at h); go_simp <;> first | decide | assumption
        try simp only [Act.put, gA, gS, gZ, sA, sZ, sS]
        refine tk 15 (.bool true) rfl (.inl ⟨by rfl, ?_⟩) ?_
        · intro _ h; (try dsimp only at h); go_simp <;> first | decide | assumption
        try simp only [Act.put, gA, gS, gZ, sA, sZ, sS]
        refine tk 16 (.slice ba 2 bc) rfl (.inl ⟨by rfl, ?_⟩) ?_
        · intro _ h; (try dsimp only at h); go_simp <;> first | decide | assumption
        try simp only [Act.put, gA, gS, gZ, sA, sZ, sS]
        refine tk 17 (.bool true) rfl (.inl ⟨by rfl, ?_⟩) ?_
        · intro _ h; (try dsimp only at h); go_simp <;> first | decide | assumption
        try simp only [Act.put, gA, gS, gZ, sA, sZ, sS]
        refine wpAnyH_done (by kernel_rfl) ?_ _
        go_wp2_with fail
        go_ret2
        rw [← HR.out]
        exact ⟨⟨_, _, _, rfl, ⟨ht.row, ht.le, ht.max, fun hp => by obtain ⟨g, e1, e2, e3⟩ := ht.own hp; exact ⟨g, e1, Nat.le_trans hb0.size e2, e3⟩⟩⟩, hHeld⟩
      · have GLE : ∀ _ : Unit, ¬ (n : Int) ≤ 32768 := fun _ => by omega
        show Calls _ _ _ _ (RefTo w (Option.map (fun n : Nat => bytesL (n : Int) 2) (Option.bind (if n ≤ 32768 then some n else none) fun n => if n = 0 then none else some (18446744073709551616 - n))))
        rw [if_neg hle]
        show Calls _ _ _ _ (RefTo w none)
        clear hle h0 nm
        generalize 18446744073709551616 - n = q at *
        go_enter Tryz.func34, Tryz.ntmps34
        go_wp2_with fail
        refine (hS _).mono ?_
        rintro e w ⟨rfl, rfl⟩
        go_wp2_with fail
        refine (hKd _).mono ?_
        rintro e w ⟨rfl, rfl⟩
        go_wp2_with fail
        refine (hM _).mono ?_
        rintro e w ⟨rfl, rfl⟩
        go_wp2_with fail
        refine (hN _).mono ?_
        rintro e w ⟨rfl, rfl⟩
        go_wp2_with fail
        have gle := GLE ()
        refine wp_region_held_drew (S := fun x => Below w.heap.size w x) (by kernel_rfl) (Below.drew (Below.refl _ _)) (fun hHeld => ?_)
        refine tk 0 (.int .u64 (n : Int)) rfl (.inl ⟨by rfl, ?_⟩) ?_
        · intro _ h; (try dsimp only at h); go_simp <;> first | decide | assumption
        try simp only [Act.put, gA, gS, gZ, sA, sZ, sS]
        refine tk 1 (.int .u64 (q : Int)) rfl (.inl ⟨by rfl, ?_⟩) ?_
        · intro _ h; (try dsimp only at h); go_simp <;> first | decide | assumption
        try simp only [Act.put, gA, gS, gZ, sA, sZ, sS]
        refine tk 2 (.int .i64 2) rfl (.inl ⟨by rfl, ?_⟩) ?_
        · intro _ h; (try dsimp only at h); go_simp <;> first | decide | assumption
        try simp only [Act.put, gA, gS, gZ, sA, sZ, sS]
        refine tk 4 (.bool true) rfl (.inl ⟨by rfl, ?_⟩) ?_
        · intro _ h; (try dsimp only at h); go_simp <;> first | decide | assumption
        try simp only [Act.put, gA, gS, gZ, sA, sZ, sS]
        refine wpAnyH_ready (rs := [3]) (by kernel_rfl) (by simp) ?_
        refine AllReadyH.cons rfl (fun K' hK => ?_) AllReadyH.nil
        rw [if_pos (by rfl)]
        simp only [List.getElem_toArray, List.getElem_cons_succ, List.getElem_cons_zero]
        go_wp2_with fail
        refine (bytesD_any ((q : Int)) 2 _ (by decide)).mono ?_
        rintro e z ⟨⟨ba, bc, rfl, ht⟩, hbx⟩
        try go_wp2_with fail
        refine hK.out _ _ (Below.andThen hHeld hbx) (fun hHeld => ?_)
        clear hK K'
        try simp only [Act.put, gA, gS, gZ, sA, sZ, sS]
        refine tk 5 (.bool true) rfl (.inl ⟨by rfl, ?_⟩) ?_
        · intro _ h; (try dsimp only at h); go_simp <;> first | decide | assumption
        try simp only [Act.put, gA, gS, gZ, sA, sZ, sS]
        refine tk 6 (.int .u64 (n : Int)) rfl (.inl ⟨by rfl, ?_⟩) ?_
        · intro _ h; (try dsimp only at h); go_simp <;> first | decide | assumption
        try simp only [Act.put, gA, gS, gZ, sA, sZ, sS]
        refine tk 7 (.bool true) rfl (.inl ⟨by rfl, ?_⟩) ?_
        · intro _ h; (try dsimp only at h); go_simp <;> first | decide | assumption
        try simp only [Act.put, gA, gS, gZ, sA, sZ, sS]
        refine tk 8 (.bool true) rfl (.inl ⟨by rfl, ?_⟩) ?_
        · intro _ h; (try dsimp only at h); go_simp <;> first | decide | assumption
        try simp only [Act.put, gA, gS, gZ, sA, sZ, sS]
        refine tk 9 (.bool true) rfl (.inl ⟨by rfl, ?_⟩) ?_
        · intro _ h; (try dsimp only at h); go_simp <;> first | decide | assumption
        try simp only [Act.put, gA, gS, gZ, sA, sZ, sS]
        refine tk 10 (.int .u64 (n : Int)) rfl (.inl ⟨by rfl, ?_⟩) ?_
        · intro _ h; (try dsimp only at h); go_simp <;> first | decide | assumption
        try simp only [Act.put, gA, gS, gZ, sA, sZ, sS]
        refine tk 11 (.int .i64 16) rfl (.inl ⟨by rfl, ?_⟩) ?_
        · intro _ h; (try dsimp only at h); go_simp <;> first | decide | assumption
        try simp only [Act.put, gA, gS, gZ, sA, sZ, sS]
        refine tk 12 (.int .i64 15) rfl (.inl ⟨by rfl, ?_⟩) ?_
        · intro _ h; (try dsimp only at h); go_simp <;> first | decide | assumption
        try simp only [Act.put, gA, gS, gZ, sA, sZ, sS]
        refine tk 13 (.int .u64 32768) rfl (.inl ⟨by rfl, ?_⟩) ?_
        · intro _ h; (try dsimp only at h); go_simp <;> first | decide | assumption
        try simp only [Act.put, gA, gS, gZ, sA, sZ, sS]
        refine tk 14 (.bool false) rfl (.inl ⟨by rfl, ?_⟩) ?_
        · intro _ h; (try dsimp only at h); go_simp <;> first | decide | assumption
        try simp only [Act.put, gA, gS, gZ, sA, sZ, sS]
        refine tk 15 (.bool false) rfl (.inl ⟨by rfl, ?_⟩) ?_
        · intro _ h; (try dsimp only at h); go_simp <;> first | decide | assumption
        try simp only [Act.put, gA, gS, gZ, sA, sZ, sS]
        refine tk 16 (.slice ba 2 bc) rfl (.inl ⟨by rfl, ?_⟩) ?_
        · intro _ h; (try dsimp only at h); go_simp <;> first | decide | assumption
        try simp only [Act.put, gA, gS, gZ, sA, sZ, sS]
        refine tk 17 (.bool false) rfl (.inl ⟨by rfl, ?_⟩) ?_
        · intro _ h; (try dsimp only at h); go_simp <;> first | decide | assumption
        try simp only [Act.put, gA, gS, gZ, sA, sZ, sS]
        refine wpAnyH_done (by kernel_rfl) ?_ _
        go_wp2_with fail
        go_ret2
        exact ⟨⟨_, rfl⟩, hHeld⟩
  · rw [if_neg hh, decV_most (32768 - 1) (by decide)]
    rw [if_neg hh] at hM
    have hN := fun w => refNumberD_any l w hl
    have DM := fun n h => decV_max l n h
    clear IV hh hlt
    generalize str l = sl at *
    generalize decV 18446744073709551615 l = v at *
    cases v with
    | none =>
      replace hN : ∀ w : World, Calls Tryz.prog 37 #[.string sl] w fun e w' => e = .returned (.tuple #[.int .u64 0, .bool false]) ∧ w' = w := hN
      show Calls _ _ _ _ (RefTo w none)
      clear DM
      go_enter Tryz.func34, Tryz.ntmps34
      go_wp2_with fail
      refine (hS _).mono ?_
      rintro e w ⟨rfl, rfl⟩
      go_wp2_with fail
      refine (hKd _).mono ?_
      rintro e w ⟨rfl, rfl⟩
      go_wp2_with fail
      refine (hM _).mono ?_
      rintro e w ⟨rfl, rfl⟩
      go_wp2_with fail
      refine (hN _).mono ?_
      rintro e w ⟨rfl, rfl⟩
      go_wp2_with fail
      refine wp_region_held_drew (S := fun x => Below w.heap.size w x) (by kernel_rfl) (Below.drew (Below.refl _ _)) (fun hHeld => ?_)
      refine tk 0 (.int .u64 0) rfl (.inl ⟨by rfl, ?_⟩) ?_
      · intro _ h; (try dsimp only at h); go_simp <;> first | decide | assumption
      try simp only [Act.put, gA, gS, gZ, sA, sZ, sS]
      refine tk 1 (.int .i64 2) rfl (.inl ⟨by rfl, ?_⟩) ?_
      · intro _ h; (try dsimp only at h); go_simp <;> first | decide | assumption
      try simp only [Act.put, gA, gS, gZ, sA, sZ, sS]
      refine tk 3 (.bool false) rfl (.inl ⟨by rfl, ?_⟩) ?_
      · intro _ h; (try dsimp only at h); go_simp <;> first | decide | assumption
      try simp only [Act.put, gA, gS, gZ, sA, sZ, sS]
      refine wpAnyH_ready (rs := [2]) (by kernel_rfl) (by simp) ?_
      refine AllReadyH.cons rfl (fun K' hK => ?_) AllReadyH.nil
      rw [if_pos (by rfl)]
      simp only [List.getElem_toArray, List.getElem_cons_succ, List.getElem_cons_zero]
      go_wp2_with fail
      refine (bytesD_any (0) 2 _ (by decide)).mono ?_
      rintro e z ⟨⟨ba, bc, rfl, ht⟩, hbx⟩
      try go_wp2_with fail
      refine hK.out _ _ (Below.andThen hHeld hbx) (fun hHeld => ?_)
      clear hK K'
      try simp only [Act.put, gA, gS, gZ, sA, sZ, sS]
      refine tk 4 (.bool false) rfl (.inl ⟨by rfl, ?_⟩) ?_
      · intro _ h; (try dsimp only at h); go_simp <;> first | decide | assumption
      try simp only [Act.put, gA, gS, gZ, sA, sZ, sS]
      refine tk 5 undef rfl (.inr ⟨by rfl, rfl⟩) ?_
      try simp only [Act.put, gA, gS, gZ, sA, sZ, sS]
      refine tk 6 undef rfl (.inr ⟨by rfl, rfl⟩) ?_
      try simp only [Act.put, gA, gS, gZ, sA, sZ, sS]
      refine tk 7 undef rfl (.inr ⟨by rfl, rfl⟩) ?_
      try simp only [Act.put, gA, gS, gZ, sA, sZ, sS]
      refine tk 8 undef rfl (.inr ⟨by rfl, rfl⟩) ?_
      try simp only [Act.put, gA, gS, gZ, sA, sZ, sS]
      refine tk 9 undef rfl (.inr ⟨by rfl, rfl⟩) ?_
      try simp only [Act.put, gA, gS, gZ, sA, sZ, sS]
      refine tk 10 (.bool false) rfl (.inl ⟨by rfl, ?_⟩) ?_
      · intro _ h; (try dsimp only at h); go_simp <;> first | decide | assumption
      try simp only [Act.put, gA, gS, gZ, sA, sZ, sS]
      refine tk 11 (.slice ba 2 bc) rfl (.inl ⟨by rfl, ?_⟩) ?_
      · intro _ h; (try dsimp only at h); go_simp <;> first | decide | assumption
      try simp only [Act.put, gA, gS, gZ, sA, sZ, sS]
      refine tk 12 (.bool false) rfl (.inl ⟨by rfl, ?_⟩) ?_
      · intro _ h; (try dsimp only at h); go_simp <;> first | decide | assumption
      try simp only [Act.put, gA, gS, gZ, sA, sZ, sS]
      refine wpAnyH_done (by kernel_rfl) ?_ _
      go_wp2_with fail
      go_ret2
      exact ⟨⟨_, rfl⟩, hHeld⟩
    | some n =>
      replace hN : ∀ w : World, Calls Tryz.prog 37 #[.string sl] w fun e w' => e = .returned (.tuple #[.int .u64 (n : Int), .bool true]) ∧ w' = w := hN
      have nm := DM n rfl
      clear DM
      by_cases hle : n ≤ 32768 - 1
      · have GLE : ∀ _ : Unit, (n : Int) < 32768 := fun _ => by omega
        show Calls _ _ _ _ (RefTo w (Option.map (fun n : Nat => bytesL (n : Int) 2) (if n ≤ 32768 - 1 then some n else none)))
        rw [if_pos hle]
        show Calls _ _ _ _ (RefTo w (some (bytesL (n : Int) 2)))
        obtain ⟨R, HR⟩ : ∃ R, Hid (some (bytesL (n : Int) 2) = R) := ⟨_, rfl⟩
        rw [HR.out]
        clear hle nm
        go_enter Tryz.func34, Tryz.ntmps34
        go_wp2_with fail
        refine (hS _).mono ?_
        rintro e w ⟨rfl, rfl⟩
        go_wp2_with fail
        refine (hKd _).mono ?_
        rintro e w ⟨rfl, rfl⟩
        go_wp2_with fail
        refine (hM _).mono ?_
        rintro e w ⟨rfl, rfl⟩
        go_wp2_with fail
        refine (hN _).mono ?_
        rintro e w ⟨rfl, rfl⟩
        go_wp2_with fail
        have gle := GLE ()
        refine wp_region_held_drew (S := fun x => Below w.heap.size w x) (by kernel_rfl) (Below.drew (Below.refl _ _)) (fun hHeld => ?_)
        refine tk 0 (.int .u64 (n : Int)) rfl (.inl ⟨by rfl, ?_⟩) ?_
        · intro _ h; (try dsimp only at h); go_simp <;> first | decide | assumption
        try simp only [Act.put, gA, gS, gZ, sA, sZ, sS]
        refine tk 1 (.int .i64 2) rfl (.inl ⟨by rfl, ?_⟩) ?_
        · intro _ h; (try dsimp only at h); go_simp <;> first | decide | assumption
        try simp only [Act.put, gA, gS, gZ, sA, sZ, sS]
        refine tk 3 (.bool true) rfl (.inl ⟨by rfl, ?_⟩) ?_
        · intro _ h; (try dsimp only at h); go_simp <;> first | decide | assumption
        try simp only [Act.put, gA, gS, gZ, sA, sZ, sS]
        refine wpAnyH_ready (rs := [2]) (by kernel_rfl) (by simp) ?_
        refine AllReadyH.cons rfl (fun K' hK => ?_) AllReadyH.nil
        rw [if_pos (by rfl)]
        simp only [List.getElem_toArray, List.getElem_cons_succ, List.getElem_cons_zero]
        go_wp2_with fail
        refine (bytesD_any ((n : Int)) 2 _ (by decide)).mono ?_
        rintro e z ⟨⟨ba, bc, rfl, ht⟩, hbx⟩
        try go_wp2_with fail
        have hb0 := hHeld
        refine hK.out _ _ (Below.andThen hHeld hbx) (fun hHeld => ?_)
        clear hK K'
        try simp only [Act.put, gA, gS, gZ, sA, sZ, sS]
        refine tk 4 (.bool true) rfl (.inl ⟨by rfl, ?_⟩) ?_
        · intro _ h; (try dsimp only at h); go_simp <;> first | decide | assumption
        try simp only [Act.put, gA, gS, gZ, sA, sZ, sS]
        refine tk 5 (.int .u64 (n : Int)) rfl (.inl ⟨by rfl, ?_⟩) ?_
        · intro _ h; (try dsimp only at h); go_simp <;> first | decide | assumption
        try simp only [Act.put, gA, gS, gZ, sA, sZ, sS]
        refine tk 6 (.int .i64 16) rfl (.inl ⟨by rfl, ?_⟩) ?_
        · intro _ h; (try dsimp only at h); go_simp <;> first | decide | assumption
        try simp only [Act.put, gA, gS, gZ, sA, sZ, sS]
        refine tk 7 (.int .i64 15) rfl (.inl ⟨by rfl, ?_⟩) ?_
        · intro _ h; (try dsimp only at h); go_simp <;> first | decide | assumption
        try simp only [Act.put, gA, gS, gZ, sA, sZ, sS]
        refine tk 8 (.int .u64 32768) rfl (.inl ⟨by rfl, ?_⟩) ?_
        · intro _ h; (try dsimp only at h); go_simp <;> first | decide | assumption
        try simp only [Act.put, gA, gS, gZ, sA, sZ, sS]
        refine tk 9 (.bool true) rfl (.inl ⟨by rfl, ?_⟩) ?_
        · intro _ h; (try dsimp only at h); go_simp <;> first | decide | assumption
        try simp only [Act.put, gA, gS, gZ, sA, sZ, sS]
        refine tk 10 (.bool true) rfl (.inl ⟨by rfl, ?_⟩) ?_
        · intro _ h; (try dsimp only at h); go_simp <;> first | decide | assumption
        try simp only [Act.put, gA, gS, gZ, sA, sZ, sS]
        refine tk 11 (.slice ba 2 bc) rfl (.inl ⟨by rfl, ?_⟩) ?_
        · intro _ h; (try dsimp only at h); go_simp <;> first | decide | assumption
        try simp only [Act.put, gA, gS, gZ, sA, sZ, sS]
        refine tk 12 (.bool true) rfl (.inl ⟨by rfl, ?_⟩) ?_
        · intro _ h; (try dsimp only at h); go_simp <;> first | decide | assumption
        try simp only [Act.put, gA, gS, gZ, sA, sZ, sS]
        refine wpAnyH_done (by kernel_rfl) ?_ _
        go_wp2_with fail
        go_ret2
        rw [← HR.out]
        exact ⟨⟨_, _, _, rfl, ⟨ht.row, ht.le, ht.max, fun hp => by obtain ⟨g, e1, e2, e3⟩ := ht.own hp; exact ⟨g, e1, Nat.le_trans hb0.size e2, e3⟩⟩⟩, hHeld⟩
      · have GLE : ∀ _ : Unit, ¬ (n : Int) < 32768 := fun _ => by omega
        show Calls _ _ _ _ (RefTo w (Option.map (fun n : Nat => bytesL (n : Int) 2) (if n ≤ 32768 - 1 then some n else none)))
        rw [if_neg hle]
        show Calls _ _ _ _ (RefTo w none)
        clear hle nm
        go_enter Tryz.func34, Tryz.ntmps34
        go_wp2_with fail
        refine (hS _).mono ?_
        rintro e w ⟨rfl, rfl⟩
        go_wp2_with fail
        refine (hKd _).mono ?_
        rintro e w ⟨rfl, rfl⟩
        go_wp2_with fail
        refine (hM _).mono ?_
        rintro e w ⟨rfl, rfl⟩
        go_wp2_with fail
        refine (hN _).mono ?_
        rintro e w ⟨rfl, rfl⟩
        go_wp2_with fail
        have gle := GLE ()
        refine wp_region_held_drew (S := fun x => Below w.heap.size w x) (by kernel_rfl) (Below.drew (Below.refl _ _)) (fun hHeld => ?_)
        refine tk 0 (.int .u64 (n : Int)) rfl (.inl ⟨by rfl, ?_⟩) ?_
        · intro _ h; (try dsimp only at h); go_simp <;> first | decide | assumption
        try simp only [Act.put, gA, gS, gZ, sA, sZ, sS]
        refine tk 1 (.int .i64 2) rfl (.inl ⟨by rfl, ?_⟩) ?_
        · intro _ h; (try dsimp only at h); go_simp <;> first | decide | assumption
        try simp only [Act.put, gA, gS, gZ, sA, sZ, sS]
        refine tk 3 (.bool true) rfl (.inl ⟨by rfl, ?_⟩) ?_
        · intro _ h; (try dsimp only at h); go_simp <;> first | decide | assumption
        try simp only [Act.put, gA, gS, gZ, sA, sZ, sS]
        refine wpAnyH_ready (rs := [2]) (by kernel_rfl) (by simp) ?_
        refine AllReadyH.cons rfl (fun K' hK => ?_) AllReadyH.nil
        rw [if_pos (by rfl)]
        simp only [List.getElem_toArray, List.getElem_cons_succ, List.getElem_cons_zero]
        go_wp2_with fail
        refine (bytesD_any ((n : Int)) 2 _ (by decide)).mono ?_
        rintro e z ⟨⟨ba, bc, rfl, ht⟩, hbx⟩
        try go_wp2_with fail
        refine hK.out _ _ (Below.andThen hHeld hbx) (fun hHeld => ?_)
        clear hK K'
        try simp only [Act.put, gA, gS, gZ, sA, sZ, sS]
        refine tk 4 (.bool true) rfl (.inl ⟨by rfl, ?_⟩) ?_
        · intro _ h; (try dsimp only at h); go_simp <;> first | decide | assumption
        try simp only [Act.put, gA, gS, gZ, sA, sZ, sS]
        refine tk 5 (.int .u64 (n : Int)) rfl (.inl ⟨by rfl, ?_⟩) ?_
        · intro _ h; (try dsimp only at h); go_simp <;> first | decide | assumption
        try simp only [Act.put, gA, gS, gZ, sA, sZ, sS]
        refine tk 6 (.int .i64 16) rfl (.inl ⟨by rfl, ?_⟩) ?_
        · intro _ h; (try dsimp only at h); go_simp <;> first | decide | assumption
        try simp only [Act.put, gA, gS, gZ, sA, sZ, sS]
        refine tk 7 (.int .i64 15) rfl (.inl ⟨by rfl, ?_⟩) ?_
        · intro _ h; (try dsimp only at h); go_simp <;> first | decide | assumption
        try simp only [Act.put, gA, gS, gZ, sA, sZ, sS]
        refine tk 8 (.int .u64 32768) rfl (.inl ⟨by rfl, ?_⟩) ?_
        · intro _ h; (try dsimp only at h); go_simp <;> first | decide | assumption
        try simp only [Act.put, gA, gS, gZ, sA, sZ, sS]
        refine tk 9 (.bool false) rfl (.inl ⟨by rfl, ?_⟩) ?_
        · intro _ h; (try dsimp only at h); go_simp <;> first | decide | assumption
        try simp only [Act.put, gA, gS, gZ, sA, sZ, sS]
        refine tk 10 (.bool false) rfl (.inl ⟨by rfl, ?_⟩) ?_
        · intro _ h; (try dsimp only at h); go_simp <;> first | decide | assumption
        try simp only [Act.put, gA, gS, gZ, sA, sZ, sS]
        refine tk 11 (.slice ba 2 bc) rfl (.inl ⟨by rfl, ?_⟩) ?_
        · intro _ h; (try dsimp only at h); go_simp <;> first | decide | assumption
        try simp only [Act.put, gA, gS, gZ, sA, sZ, sS]
        refine tk 12 (.bool false) rfl (.inl ⟨by rfl, ?_⟩) ?_
        · intro _ h; (try dsimp only at h); go_simp <;> first | decide | assumption
        try simp only [Act.put, gA, gS, gZ, sA, sZ, sS]
        refine wpAnyH_done (by kernel_rfl) ?_ _
        go_wp2_with fail
        go_ret2
        exact ⟨⟨_, rfl⟩, hHeld⟩

set_option linter.unusedSimpArgs false in
set_option maxHeartbeats 4000000 in
set_option maxRecDepth 100000 in
theorem wholeI3 (t : Int) (l : List UInt8) (w : World) (hk : kindN t = 2) (hs : sizeN t = 3) (hl : l.length ≤ 1000000) :
    Calls Tryz.prog 34 #[.int .u8 t, .string (str l)] w (RefTo w (intV t l)) := by
  have hlt : letN t = 105 := by unfold letN; rw [hk]; rfl
  have hS := fun w => refSize_any t w
  have hKd := fun w => refKind_any t w
  rw [hs] at hS
  rw [hlt] at hKd
  have hM := fun w => minusD_any l w
  have IV : intV t l = (sgnV 8388608 (8388608 - 1) l).map fun n : Nat => bytesL (n : Int) 3 := sgn_int t l 3 hs hk
  rw [IV]
  unfold sgnV
  unfold minT at hM
  by_cases hh : l.head? = some 45
  · rw [if_pos hh, decV_most 8388608 (by decide)]
    rw [if_pos hh] at hM
    have hN := fun w => refNumberD_any l.tail w (by rw [List.length_tail]; omega)
    have DM := fun n h => decV_max l.tail n h
    clear IV hh hlt
    generalize str l = sl at *
    generalize str l.tail = st at *
    generalize decV 18446744073709551615 l.tail = v at *
    cases v with
    | none =>
      replace hN : ∀ w : World, Calls Tryz.prog 37 #[.string st] w fun e w' => e = .returned (.tuple #[.int .u64 0, .bool false]) ∧ w' = w := hN
      show Calls _ _ _ _ (RefTo w none)
      clear DM
      go_enter Tryz.func34, Tryz.ntmps34
      go_wp2_with fail
      refine (hS _).mono ?_
      rintro e w ⟨rfl, rfl⟩
      go_wp2_with fail
      refine (hKd _).mono ?_
      rintro e w ⟨rfl, rfl⟩
      go_wp2_with fail
      refine (hM _).mono ?_
      rintro e w ⟨rfl, rfl⟩
      go_wp2_with fail
      refine (hN _).mono ?_
      rintro e w ⟨rfl, rfl⟩
      go_wp2_with fail
      refine wp_region_held_drew (S := fun x => Below w.heap.size w x) (by kernel_rfl) (Below.drew (Below.refl _ _)) (fun hHeld => ?_)
      refine tk 0 (.int .u64 0) rfl (.inl ⟨by rfl, ?_⟩) ?_
      · intro _ h; (try dsimp only at h); go_simp <;> first | decide | assumption
      try simp only [Act.put, gA, gS, gZ, sA, sZ, sS]
      refine tk 1 (.int .u64 0) rfl (.inl ⟨by rfl, ?_⟩) ?_
      · intro _ h; (try dsimp only at h); go_simp <;> first | decide | assumption
      try simp only [Act.put, gA, gS, gZ, sA, sZ, sS]
      refine tk 2 (.int .i64 3) rfl (.inl ⟨by rfl, ?_⟩) ?_
      · intro _ h; (try dsimp only at h); go_simp <;> first | decide | assumption
      try simp only [Act.put, gA, gS, gZ, sA, sZ, sS]
      refine tk 4 (.bool false) rfl (.inl ⟨by rfl, ?_⟩) ?_
      · intro _ h; (try dsimp only at h); go_simp <;> first | decide | assumption
      try simp only [Act.put, gA, gS, gZ, sA, sZ, sS]
      refine wpAnyH_ready (rs := [3]) (by kernel_rfl) (by simp) ?_
      refine AllReadyH.cons rfl (fun K' hK => ?_) AllReadyH.nil
      rw [if_pos (by rfl)]
      simp only [List.getElem_toArray, List.getElem_cons_succ, List.getElem_cons_zero]
      go_wp2_with fail
      refine (bytesD_any (0) 3 _ (by decide)).mono ?_
      rintro e z ⟨⟨ba, bc, rfl, ht⟩, hbx⟩
      try go_wp2_with fail
      refine hK.out _ _ (Below.andThen hHeld hbx) (fun hHeld => ?_)
      clear hK K'
      try simp only [Act.put, gA, gS, gZ, sA, sZ, sS]
      refine tk 5 (.bool false) rfl (.inl ⟨by rfl, ?_⟩) ?_
      · intro _ h; (try dsimp only at h); go_simp <;> first | decide | assumption
      try simp only [Act.put, gA, gS, gZ, sA, sZ, sS]
      refine tk 6 undef rfl (.inr ⟨by rfl, rfl⟩) ?_
      try simp only [Act.put, gA, gS, gZ, sA, sZ, sS]
      refine tk 7 undef rfl (.inr ⟨by rfl, rfl⟩) ?_
      try simp only [Act.put, gA, gS, gZ, sA, sZ, sS]
      refine tk 8 (.bool false) rfl (.inl ⟨by rfl, ?_⟩) ?_
      · intro _ h; (try dsimp only at h); go_simp <;> first | decide | assumption
      try simp only [Act.put, gA, gS, gZ, sA, sZ, sS]
      refine tk 9 (.bool false) rfl (.inl ⟨by rfl, ?_⟩) ?_
      · intro _ h; (try dsimp only at h); go_simp <;> first | decide | assumption
      try simp only [Act.put, gA, gS, gZ, sA, sZ, sS]
      refine tk 10 undef rfl (.inr ⟨by rfl, rfl⟩) ?_
      try simp only [Act.put, gA, gS, gZ, sA, sZ, sS]
      refine tk 11 undef rfl (.inr ⟨by rfl, rfl⟩) ?_
      try simp only [Act.put, gA, gS, gZ, sA, sZ, sS]
      refine tk 12 undef rfl (.inr ⟨by rfl, rfl⟩) ?_
      try simp only [Act.put, gA, gS, gZ, sA, sZ, sS]
      refine tk 13 undef rfl (.inr ⟨by rfl, rfl⟩) ?_
      try simp only [Act.put, gA, gS, gZ, sA, sZ, sS]
      refine tk 14 undef rfl (.inr ⟨by rfl, rfl⟩) ?_
      try simp only [Act.put, gA, gS, gZ, sA, sZ, sS]
      refine tk 15 (.bool false) rfl (.inl ⟨by rfl, ?_⟩) ?_
      · intro _ h; (try dsimp only at h); go_simp <;> first | decide | assumption
      try simp only [Act.put, gA, gS, gZ, sA, sZ, sS]
      refine tk 16 (.slice ba 3 bc) rfl (.inl ⟨by rfl, ?_⟩) ?_
      · intro _ h; (try dsimp only at h); go_simp <;> first | decide | assumption
      try simp only [Act.put, gA, gS, gZ, sA, sZ, sS]
      refine tk 17 (.bool false) rfl (.inl ⟨by rfl, ?_⟩) ?_
      · intro _ h; (try dsimp only at h); go_simp <;> first | decide | assumption
      try simp only [Act.put, gA, gS, gZ, sA, sZ, sS]
      refine wpAnyH_done (by kernel_rfl) ?_ _
      go_wp2_with fail
      go_ret2
      exact ⟨⟨_, rfl⟩, hHeld⟩
    | some n =>
      replace hN : ∀ w : World, Calls Tryz.prog 37 #[.string st] w fun e w' => e = .returned (.tuple #[.int .u64 (n : Int), .bool true]) ∧ w' = w := hN
      have nm := DM n rfl
      clear DM
      by_cases h0 : n = 0
      · subst h0
        show Calls _ _ _ _ (RefTo w none)
        go_enter Tryz.func34, Tryz.ntmps34
        go_wp2_with fail
        refine (hS _).mono ?_
        rintro e w ⟨rfl, rfl⟩
        go_wp2_with fail
        refine (hKd _).mono ?_
        rintro e w ⟨rfl, rfl⟩
        go_wp2_with fail
        refine (hM _).mono ?_
        rintro e w ⟨rfl, rfl⟩
        go_wp2_with fail
        refine (hN _).mono ?_
        rintro e w ⟨rfl, rfl⟩
        go_wp2_with fail
        refine wp_region_held_drew (S := fun x => Below w.heap.size w x) (by kernel_rfl) (Below.drew (Below.refl _ _)) (fun hHeld => ?_)
        refine tk 0 (.int .u64 0) rfl (.inl ⟨by rfl, ?_⟩) ?_
        · intro _ h; (try dsimp only at h); go_simp <;> first | decide | assumption
        try simp only [Act.put, gA, gS, gZ, sA, sZ, sS]
        refine tk 1 (.int .u64 0) rfl (.inl ⟨by rfl, ?_⟩) ?_
        · intro _ h; (try dsimp only at h); go_simp <;> first | decide | assumption
        try simp only [Act.put, gA, gS, gZ, sA, sZ, sS]
        refine tk 2 (.int .i64 3) rfl (.inl ⟨by rfl, ?_⟩) ?_
        · intro _ h; (try dsimp only at h); go_simp <;> first | decide | assumption
        try simp only [Act.put, gA, gS, gZ, sA, sZ, sS]
        refine tk 4 (.bool true) rfl (.inl ⟨by rfl, ?_⟩) ?_
        · intro _ h; (try dsimp only at h); go_simp <;> first | decide | assumption
        try simp only [Act.put, gA, gS, gZ, sA, sZ, sS]
        refine wpAnyH_ready (rs := [3]) (by kernel_rfl) (by simp) ?_
        refine AllReadyH.cons rfl (fun K' hK => ?_) AllReadyH.nil
        rw [if_pos (by rfl)]
        simp only [List.getElem_toArray, List.getElem_cons_succ, List.getElem_cons_zero]
        go_wp2_with fail
        refine (bytesD_any (0) 3 _ (by decide)).mono ?_
        rintro e z ⟨⟨ba, bc, rfl, ht⟩, hbx⟩
        try go_wp2_with fail
        refine hK.out _ _ (Below.andThen hHeld hbx) (fun hHeld => ?_)
        clear hK K'
        try simp only [Act.put, gA, gS, gZ, sA, sZ, sS]
        refine tk 5 (.bool true) rfl (.inl ⟨by rfl, ?_⟩) ?_
        · intro _ h; (try dsimp only at h); go_simp <;> first | decide | assumption
        try simp only [Act.put, gA, gS, gZ, sA, sZ, sS]
        refine tk 6 (.int .u64 0) rfl (.inl ⟨by rfl, ?_⟩) ?_
        · intro _ h; (try dsimp only at h); go_simp <;> first | decide | assumption
        try simp only [Act.put, gA, gS, gZ, sA, sZ, sS]
        refine tk 7 (.bool false) rfl (.inl ⟨by rfl, ?_⟩) ?_
        · intro _ h; (try dsimp only at h); go_simp <;> first | decide | assumption
        try simp only [Act.put, gA, gS, gZ, sA, sZ, sS]
        refine tk 8 (.bool false) rfl (.inl ⟨by rfl, ?_⟩) ?_
        · intro _ h; (try dsimp only at h); go_simp <;> first | decide | assumption
        try simp only [Act.put, gA, gS, gZ, sA, sZ, sS]
        refine tk 9 (.bool false) rfl (.inl ⟨by rfl, ?_⟩) ?_
        · intro _ h; (try dsimp only at h); go_simp <;> first | decide | assumption
        try simp only [Act.put, gA, gS, gZ, sA, sZ, sS]
        refine tk 10 undef rfl (.inr ⟨by rfl, rfl⟩) ?_
        try simp only [Act.put, gA, gS, gZ, sA, sZ, sS]
        refine tk 11 undef rfl (.inr ⟨by rfl, rfl⟩) ?_
        try simp only [Act.put, gA, gS, gZ, sA, sZ, sS]
        refine tk 12 undef rfl (.inr ⟨by rfl, rfl⟩) ?_
        try simp only [Act.put, gA, gS, gZ, sA, sZ, sS]
        refine tk 13 undef rfl (.inr ⟨by rfl, rfl⟩) ?_
        try simp only [Act.put, gA, gS, gZ, sA, sZ, sS]
        refine tk 14 undef rfl (.inr ⟨by rfl, rfl⟩) ?_
        try simp only [Act.put, gA, gS, gZ, sA, sZ, sS]
        refine tk 15 (.bool false) rfl (.inl ⟨by rfl, ?_⟩) ?_
        · intro _ h; (try dsimp only at h); go_simp <;> first | decide | assumption
        try simp only [Act.put, gA, gS, gZ, sA, sZ, sS]
        refine tk 16 (.slice ba 3 bc) rfl (.inl ⟨by rfl, ?_⟩) ?_
        · intro _ h; (try dsimp only at h); go_simp <;> first | decide | assumption
        try simp only [Act.put, gA, gS, gZ, sA, sZ, sS]
        refine tk 17 (.bool false) rfl (.inl ⟨by rfl, ?_⟩) ?_
        · intro _ h; (try dsimp only at h); go_simp <;> first | decide | assumption
        try simp only [Act.put, gA, gS, gZ, sA, sZ, sS]
        refine wpAnyH_done (by kernel_rfl) ?_ _
        go_wp2_with fail
        go_ret2
        exact ⟨⟨_, rfl⟩, hHeld⟩
      have g0 : (0 : Int) < (n : Int) := by omega
      have g0n : 0 < n := by omega
      have wq : IntKind.u64.wrap (-(n : Int)) = ((18446744073709551616 - n : Nat) : Int) := by rw [IntKind.wrap_u64]; omega
      have wq' : IntKind.u64.wrap (0 - (n : Int)) = ((18446744073709551616 - n : Nat) : Int) := by rw [IntKind.wrap_u64]; omega
      by_cases hle : n ≤ 8388608
      · have GLE : ∀ _ : Unit, (n : Int) ≤ 8388608 := fun _ => by omega
        show Calls _ _ _ _ (RefTo w (Option.map (fun n : Nat => bytesL (n : Int) 3) (Option.bind (if n ≤ 8388608 then some n else none) fun n => if n = 0 then none else some (18446744073709551616 - n))))
        rw [if_pos hle]
        show Calls _ _ _ _ (RefTo w (Option.map (fun n : Nat => bytesL (n : Int) 3) (if n = 0 then none else some (18446744073709551616 - n))))
        rw [if_neg h0]
        show Calls _ _ _ _ (RefTo w (some (bytesL ((18446744073709551616 - n : Nat) : Int) 3)))
        clear hle h0 nm
        generalize 18446744073709551616 - n = q at *
        obtain ⟨R, HR⟩ : ∃ R, Hid (some (bytesL (q : Int) 3) = R) := ⟨_, rfl⟩
        rw [HR.out]
        go_enter Tryz.func34, Tryz.ntmps34
        go_wp2_with fail
        refine (hS _).mono ?_
        rintro e w ⟨rfl, rfl⟩
        go_wp2_with fail
        refine (hKd _).mono ?_
        rintro e w ⟨rfl, rfl⟩
        go_wp2_with fail
        refine (hM _).mono ?_
        rintro e w ⟨rfl, rfl⟩
        go_wp2_with fail
        refine (hN _).mono ?_
        rintro e w ⟨rfl, rfl⟩
        go_wp2_with fail
        have gle := GLE ()
        refine wp_region_held_drew (S := fun x => Below w.heap.size w x) (by kernel_rfl) (Below.drew (Below.refl _ _)) (fun hHeld => ?_)
        refine tk 0 (.int .u64 (n : Int)) rfl (.inl ⟨by rfl, ?_⟩) ?_
        · intro _ h; (try dsimp only at h); go_simp <;> first | decide | assumption
        try simp only [Act.put, gA, gS, gZ, sA, sZ, sS]
        refine tk 1 (.int .u64 (q : Int)) rfl (.inl ⟨by rfl, ?_⟩) ?_
        · intro _ h; (try dsimp only at h); go_simp <;> first | decide | assumption
        try simp only [Act.put, gA, gS, gZ, sA, sZ, sS]
        refine tk 2 (.int .i64 3) rfl (.inl ⟨by rfl, ?_⟩) ?_
        · intro _ h; (try dsimp only at h); go_simp <;> first | decide | assumption
        try simp only [Act.put, gA, gS, gZ, sA, sZ, sS]
        refine tk 4 (.bool true) rfl (.inl ⟨by rfl, ?_⟩) ?_
        · intro _ h; (try dsimp only at h); go_simp <;> first | decide | assumption
        try simp only [Act.put, gA, gS, gZ, sA, sZ, sS]
        refine wpAnyH_ready (rs := [3]) (by kernel_rfl) (by simp) ?_
        refine AllReadyH.cons rfl (fun K' hK => ?_) AllReadyH.nil
        rw [if_pos (by rfl)]
        simp only [List.getElem_toArray, List.getElem_cons_succ, List.getElem_cons_zero]
        go_wp2_with fail
        refine (bytesD_any ((q : Int)) 3 _ (by decide)).mono ?_
        rintro e z ⟨⟨ba, bc, rfl, ht⟩, hbx⟩
        try go_wp2_with fail
        have hb0 := hHeld
        refine hK.out _ _ (Below.andThen hHeld hbx) (fun hHeld => ?_)
        clear hK K'
        try simp only [Act.put, gA, gS, gZ, sA, sZ, sS]
        refine tk 5 (.bool true) rfl (.inl ⟨by rfl, ?_⟩) ?_
        · intro _ h; (try dsimp only at h); go_simp <;> first | decide | assumption
        try simp only [Act.put, gA, gS, gZ, sA, sZ, sS]
        refine tk 6 (.int .u64 (n : Int)) rfl (.inl ⟨by rfl, ?_⟩) ?_
        · intro _ h; (try dsimp only at h); go_simp <;> first | decide | assumption
        try simp only [Act.put, gA, gS, gZ, sA, sZ, sS]
        refine tk 7 (.bool true) rfl (.inl ⟨by rfl, ?_⟩) ?_
        · intro _ h; (try dsimp only at h); go_simp <;> first | decide | assumption
        try simp only [Act.put, gA, gS, gZ, sA, sZ, sS]
        refine tk 8 (.bool true) rfl (.inl ⟨by rfl, ?_⟩) ?_
        · intro _ h; (try dsimp only at h); go_simp <;> first | decide | assumption
        try simp only [Act.put, gA, gS, gZ, sA, sZ, sS]
        refine tk 9 (.bool true) rfl (.inl ⟨by rfl, ?_⟩) ?_
        · intro _ h; (try dsimp only at h); go_simp <;> first | decide | assumption
        try simp only [Act.put, gA, gS, gZ, sA, sZ, sS]
        refine tk 10 (.int .u64 (n : Int)) rfl (.inl ⟨by rfl, ?_⟩) ?_
        · intro _ h; (try dsimp only at h); go_simp <;> first | decide | assumption
        try simp only [Act.put, gA, gS, gZ, sA, sZ, sS]
        refine tk 11 (.int .i64 24) rfl (.inl ⟨by rfl, ?_⟩) ?_
        · intro _ h; (try dsimp only at h); go_simp <;> first | decide | assumption
        try simp only [Act.put, gA, gS, gZ, sA, sZ, sS]
        refine tk 12 (.int .i64 23) rfl (.inl ⟨by rfl, ?_⟩) ?_
        · intro _ h; (try dsimp only at h); go_simp <;> first | decide | assumption
        try simp only [Act.put, gA, gS, gZ, sA, sZ, sS]
        refine tk 13 (.int .u64 8388608) rfl (.inl ⟨by rfl, ?_⟩) ?_
        · intro _ h; (try dsimp only at h); go_simp <;> first | decide | assumption
        try simp only [Act.put, gA, gS, gZ, sA, sZ, sS]
        refine tk 14 (.bool true) rfl (.inl ⟨by rfl, ?_⟩) ?_
        · intro _ h; (try dsimp only at h); go_simp <;> first | decide | assumption
        try simp only [Act.put, gA, gS, gZ, sA, sZ, sS]
        refine tk 15 (.bool true) rfl (.inl ⟨by rfl, ?_⟩) ?_
        · intro _ h; (try dsimp only at h); go_simp <;> first | decide | assumption
        try simp only [Act.put, gA, gS, gZ, sA, sZ, sS]
        refine tk 16 (.slice ba 3 bc) rfl (.inl ⟨by rfl, ?_⟩) ?_
        · intro _ h; (try dsimp only at h); go_simp <;> first | decide | assumption
        try simp only [Act.put, gA, gS, gZ, sA, sZ, sS]
        refine tk 17 (.bool true) rfl (.inl ⟨by rfl, ?_⟩) ?_
        · intro _ h; (try dsimp only at h); go_simp <;> first | decide | assumption
        try simp only [Act.put, gA, gS, gZ, sA, sZ, sS]
        refine wpAnyH_done (by kernel_rfl) ?_ _
        go_wp2_with fail
        go_ret2
        rw [← HR.out]
        exact ⟨⟨_, _, _, rfl, ⟨ht.row, ht.le, ht.max, fun hp => by obtain ⟨g, e1, e2, e3⟩ := ht.own hp; exact ⟨g, e1, Nat.le_trans hb0.size e2, e3⟩⟩⟩, hHeld⟩
      · have GLE : ∀ _ : Unit, ¬ (n : Int) ≤ 8388608 := fun _ => by omega
        show Calls _ _ _ _ (RefTo w (Option.map (fun n : Nat => bytesL (n : Int) 3) (Option.bind (if n ≤ 8388608 then some n else none) fun n => if n = 0 then none else some (18446744073709551616 - n))))
        rw [if_neg hle]
        show Calls _ _ _ _ (RefTo w none)
        clear hle h0 nm
        generalize 18446744073709551616 - n = q at *
        go_enter Tryz.func34, Tryz.ntmps34
        go_wp2_with fail
        refine (hS _).mono ?_
        rintro e w ⟨rfl, rfl⟩
        go_wp2_with fail
        refine (hKd _).mono ?_
        rintro e w ⟨rfl, rfl⟩
        go_wp2_with fail
        refine (hM _).mono ?_
        rintro e w ⟨rfl, rfl⟩
        go_wp2_with fail
        refine (hN _).mono ?_
        rintro e w ⟨rfl, rfl⟩
        go_wp2_with fail
        have gle := GLE ()
        refine wp_region_held_drew (S := fun x => Below w.heap.size w x) (by kernel_rfl) (Below.drew (Below.refl _ _)) (fun hHeld => ?_)
        refine tk 0 (.int .u64 (n : Int)) rfl (.inl ⟨by rfl, ?_⟩) ?_
        · intro _ h; (try dsimp only at h); go_simp <;> first | decide | assumption
        try simp only [Act.put, gA, gS, gZ, sA, sZ, sS]
        refine tk 1 (.int .u64 (q : Int)) rfl (.inl ⟨by rfl, ?_⟩) ?_
        · intro _ h; (try dsimp only at h); go_simp <;> first | decide | assumption
        try simp only [Act.put, gA, gS, gZ, sA, sZ, sS]
        refine tk 2 (.int .i64 3) rfl (.inl ⟨by rfl, ?_⟩) ?_
        · intro _ h; (try dsimp only at h); go_simp <;> first | decide | assumption
        try simp only [Act.put, gA, gS, gZ, sA, sZ, sS]
        refine tk 4 (.bool true) rfl (.inl ⟨by rfl, ?_⟩) ?_
        · intro _ h; (try dsimp only at h); go_simp <;> first | decide | assumption
        try simp only [Act.put, gA, gS, gZ, sA, sZ, sS]
        refine wpAnyH_ready (rs := [3]) (by kernel_rfl) (by simp) ?_
        refine AllReadyH.cons rfl (fun K' hK => ?_) AllReadyH.nil
        rw [if_pos (by rfl)]
        simp only [List.getElem_toArray, List.getElem_cons_succ, List.getElem_cons_zero]
        go_wp2_with fail
        refine (bytesD_any ((q : Int)) 3 _ (by decide)).mono ?_
        rintro e z ⟨⟨ba, bc, rfl, ht⟩, hbx⟩
        try go_wp2_with fail
        refine hK.out _ _ (Below.andThen hHeld hbx) (fun hHeld => ?_)
        clear hK K'
        try simp only [Act.put, gA, gS, gZ, sA, sZ, sS]
        refine tk 5 (.bool true) rfl (.inl ⟨by rfl, ?_⟩) ?_
        · intro _ h; (try dsimp only at h); go_simp <;> first | decide | assumption
        try simp only [Act.put, gA, gS, gZ, sA, sZ, sS]
        refine tk 6 (.int .u64 (n : Int)) rfl (.inl ⟨by rfl, ?_⟩) ?_
        · intro _ h; (try dsimp only at h); go_simp <;> first | decide | assumption
        try simp only [Act.put, gA, gS, gZ, sA, sZ, sS]
        refine tk 7 (.bool true) rfl (.inl ⟨by rfl, ?_⟩) ?_
        · intro _ h; (try dsimp only at h); go_simp <;> first | decide | assumption
        try simp only [Act.put, gA, gS, gZ, sA, sZ, sS]
        refine tk 8 (.bool true) rfl (.inl ⟨by rfl, ?_⟩) ?_
        · intro _ h; (try dsimp only at h); go_simp <;> first | decide | assumption
        try simp only [Act.put, gA, gS, gZ, sA, sZ, sS]
        refine tk 9 (.bool true) rfl (.inl ⟨by rfl, ?_⟩) ?_
        · intro _ h; (try dsimp only at h); go_simp <;> first | decide | assumption
        try simp only [Act.put, gA, gS, gZ, sA, sZ, sS]
        refine tk 10 (.int .u64 (n : Int)) rfl (.inl ⟨by rfl, ?_⟩) ?_
        · intro _ h; (try dsimp only at h); go_simp <;> first | decide | assumption
        try simp only [Act.put, gA, gS, gZ, sA, sZ, sS]
        refine tk 11 (.int .i64 24) rfl (.inl ⟨by rfl, ?_⟩) ?_
        · intro _ h; (try dsimp only at h); go_simp <;> first | decide | assumption
        try simp only [Act.put, gA, gS, gZ, sA, sZ, sS]
        refine tk 12 (.int .i64 23) rfl (.inl ⟨by rfl, ?_⟩) ?_
        · intro _ h; (try dsimp only at h); go_simp <;> first | decide | assumption
        try simp only [Act.put, gA, gS, gZ, sA, sZ, sS]
        refine tk 13 (.int .u64 8388608) rfl (.inl ⟨by rfl, ?_⟩) ?_
        · intro _ h; (try dsimp only at h); go_simp <;> first | decide | assumption
        try simp only [Act.put, gA, gS, gZ, sA, sZ, sS]
        refine tk 14 (.bool false) rfl (.inl ⟨by rfl, ?_⟩) ?_
        · intro _ h; (try dsimp only at h); go_simp <;> first | decide | assumption
        try simp only [Act.put, gA, gS, gZ, sA, sZ, sS]
        refine tk 15 (.bool false) rfl (.inl ⟨by rfl, ?_⟩) ?_
        · intro _ h; (try dsimp only at h); go_simp <;> first | decide | assumption
        try simp only [Act.put, gA, gS, gZ, sA, sZ, sS]
        refine tk 16 (.slice ba 3 bc) rfl (.inl ⟨by rfl, ?_⟩) ?_
        · intro _ h; (try dsimp only at h); go_simp <;> first | decide | assumption
        try simp only [Act.put, gA, gS, gZ, sA, sZ, sS]
        refine tk 17 (.bool false) rfl (.inl ⟨by rfl, ?_⟩) ?_
        · intro _ h; (try dsimp only at h); go_simp <;> first | decide | assumption
        try simp only [Act.put, gA, gS, gZ, sA, sZ, sS]
        refine wpAnyH_done (by kernel_rfl) ?_ _
        go_wp2_with fail
        go_ret2
        exact ⟨⟨_, rfl⟩, hHeld⟩
  · rw [if_neg hh, decV_most (8388608 - 1) (by decide)]
    rw [if_neg hh] at hM
    have hN := fun w => refNumberD_any l w hl
    have DM := fun n h => decV_max l n h
    clear IV hh hlt
    generalize str l = sl at *
    generalize decV 18446744073709551615 l = v at *
    cases v with
    | none =>
      replace hN : ∀ w : World, Calls Tryz.prog 37 #[.string sl] w fun e w' => e = .returned (.tuple #[.int .u64 0, .bool false]) ∧ w' = w := hN
      show Calls _ _ _ _ (RefTo w none)
      clear DM
      go_enter Tryz.func34, Tryz.ntmps34
      go_wp2_with fail
      refine (hS _).mono ?_
      rintro e w ⟨rfl, rfl⟩
      go_wp2_with fail
      refine (hKd _).mono ?_
      rintro e w ⟨rfl, rfl⟩
      go_wp2_with fail
      refine (hM _).mono ?_
      rintro e w ⟨rfl, rfl⟩
      go_wp2_with fail
      refine (hN _).mono ?_
      rintro e w ⟨rfl, rfl⟩
      go_wp2_with fail
      refine wp_region_held_drew (S := fun x => Below w.heap.size w x) (by kernel_rfl) (Below.drew (Below.refl _ _)) (fun hHeld => ?_)
      refine tk 0 (.int .u64 0) rfl (.inl ⟨by rfl, ?_⟩) ?_
      · intro _ h; (try dsimp only at h); go_simp <;> first | decide | assumption
      try simp only [Act.put, gA, gS, gZ, sA, sZ, sS]
      refine tk 1 (.int .i64 3) rfl (.inl ⟨by rfl, ?_⟩) ?_
      · intro _ h; (try dsimp only at h); go_simp <;> first | decide | assumption
      try simp only [Act.put, gA, gS, gZ, sA, sZ, sS]
      refine tk 3 (.bool false) rfl (.inl ⟨by rfl, ?_⟩) ?_
      · intro _ h; (try dsimp only at h); go_simp <;> first | decide | assumption
      try simp only [Act.put, gA, gS, gZ, sA, sZ, sS]
      refine wpAnyH_ready (rs := [2]) (by kernel_rfl) (by simp) ?_
      refine AllReadyH.cons rfl (fun K' hK => ?_) AllReadyH.nil
      rw [if_pos (by rfl)]
      simp only [List.getElem_toArray, List.getElem_cons_succ, List.getElem_cons_zero]
      go_wp2_with fail
      refine (bytesD_any (0) 3 _ (by decide)).mono ?_
      rintro e z ⟨⟨ba, bc, rfl, ht⟩, hbx⟩
      try go_wp2_with fail
      refine hK.out _ _ (Below.andThen hHeld hbx) (fun hHeld => ?_)
      clear hK K'
      try simp only [Act.put, gA, gS, gZ, sA, sZ, sS]
      refine tk 4 (.bool false) rfl (.inl ⟨by rfl, ?_⟩) ?_
      · intro _ h; (try dsimp only at h); go_simp <;> first | decide | assumption
      try simp only [Act.put, gA, gS, gZ, sA, sZ, sS]
      refine tk 5 undef rfl (.inr ⟨by rfl, rfl⟩) ?_
      try simp only [Act.put, gA, gS, gZ, sA, sZ, sS]
      refine tk 6 undef rfl (.inr ⟨by rfl, rfl⟩) ?_
      try simp only [Act.put, gA, gS, gZ, sA, sZ, sS]
      refine tk 7 undef rfl (.inr ⟨by rfl, rfl⟩) ?_
      try simp only [Act.put, gA, gS, gZ, sA, sZ, sS]
      refine tk 8 undef rfl (.inr ⟨by rfl, rfl⟩) ?_
      try simp only [Act.put, gA, gS, gZ, sA, sZ, sS]
      refine tk 9 undef rfl (.inr ⟨by rfl, rfl⟩) ?_
      try simp only [Act.put, gA, gS, gZ, sA, sZ, sS]
      refine tk 10 (.bool false) rfl (.inl ⟨by rfl, ?_⟩) ?_
      · intro _ h; (try dsimp only at h); go_simp <;> first | decide | assumption
      try simp only [Act.put, gA, gS, gZ, sA, sZ, sS]
      refine tk 11 (.slice ba 3 bc) rfl (.inl ⟨by rfl, ?_⟩) ?_
      · intro _ h; (try dsimp only at h); go_simp <;> first | decide | assumption
      try simp only [Act.put, gA, gS, gZ, sA, sZ, sS]
      refine tk 12 (.bool false) rfl (.inl ⟨by rfl, ?_⟩) ?_
      · intro _ h; (try dsimp only at h); go_simp <;> first | decide | assumption
      try simp only [Act.put, gA, gS, gZ, sA, sZ, sS]
      refine wpAnyH_done (by kernel_rfl) ?_ _
      go_wp2_with fail
      go_ret2
      exact ⟨⟨_, rfl⟩, hHeld⟩
    | some n =>
      replace hN : ∀ w : World, Calls Tryz.prog 37 #[.string sl] w fun e w' => e = .returned (.tuple #[.int .u64 (n : Int), .bool true]) ∧ w' = w := hN
      have nm := DM n rfl
      clear DM
      by_cases hle : n ≤ 8388608 - 1
      · have GLE : ∀ _ : Unit, (n : Int) < 8388608 := fun _ => by omega
        show Calls _ _ _ _ (RefTo w (Option.map (fun n : Nat => bytesL (n : Int) 3) (if n ≤ 8388608 - 1 then some n else none)))
        rw [if_pos hle]
        show Calls _ _ _ _ (RefTo w (some (bytesL (n : Int) 3)))
        obtain ⟨R, HR⟩ : ∃ R, Hid (some (bytesL (n : Int) 3) = R) := ⟨_, rfl⟩
        rw [HR.out]
        clear hle nm
        go_enter Tryz.func34, Tryz.ntmps34
        go_wp2_with fail
        refine (hS _).mono ?_
        rintro e w ⟨rfl, rfl⟩
        go_wp2_with fail
        refine (hKd _).mono ?_
        rintro e w ⟨rfl, rfl⟩
        go_wp2_with fail
        refine (hM _).mono ?_
        rintro e w ⟨rfl, rfl⟩
        go_wp2_with fail
        refine (hN _).mono ?_
        rintro e w ⟨rfl, rfl⟩
        go_wp2_with fail
        have gle := GLE ()
        refine wp_region_held_drew (S := fun x => Below w.heap.size w x) (by kernel_rfl) (Below.drew (Below.refl _ _)) (fun hHeld => ?_)
        refine tk 0 (.int .u64 (n : Int)) rfl (.inl ⟨by rfl, ?_⟩) ?_
        · intro _ h; (try dsimp only at h); go_simp <;> first | decide | assumption
        try simp only [Act.put, gA, gS, gZ, sA, sZ, sS]
        refine tk 1 (.int .i64 3) rfl (.inl ⟨by rfl, ?_⟩) ?_
        · intro _ h; (try dsimp only at h); go_simp <;> first | decide | assumption
        try simp only [Act.put, gA, gS, gZ, sA, sZ, sS]
        refine tk 3 (.bool true) rfl (.inl ⟨by rfl, ?_⟩) ?_
        · intro _ h; (try dsimp only at h); go_simp <;> first | decide | assumption
        try simp only [Act.put, gA, gS, gZ, sA, sZ, sS]
        refine wpAnyH_ready (rs := [2]) (by kernel_rfl) (by simp) ?_
        refine AllReadyH.cons rfl (fun K' hK => ?_) AllReadyH.nil
        rw [if_pos (by rfl)]
        simp only [List.getElem_toArray, List.getElem_cons_succ, List.getElem_cons_zero]
        go_wp2_with fail
        refine (bytesD_any ((n : Int)) 3 _ (by decide)).mono ?_
        rintro e z ⟨⟨ba, bc, rfl, ht⟩, hbx⟩
        try go_wp2_with fail
        have hb0 := hHeld
        refine hK.out _ _ (Below.andThen hHeld hbx) (fun hHeld => ?_)
        clear hK K'
        try simp only [Act.put, gA, gS, gZ, sA, sZ, sS]
        refine tk 4 (.bool true) rfl (.inl ⟨by rfl, ?_⟩) ?_
        · intro _ h; (try dsimp only at h); go_simp <;> first | decide | assumption
        try simp only [Act.put, gA, gS, gZ, sA, sZ, sS]
        refine tk 5 (.int .u64 (n : Int)) rfl (.inl ⟨by rfl, ?_⟩) ?_
        · intro _ h; (try dsimp only at h); go_simp <;> first | decide | assumption
        try simp only [Act.put, gA, gS, gZ, sA, sZ, sS]
        refine tk 6 (.int .i64 24) rfl (.inl ⟨by rfl, ?_⟩) ?_
        · intro _ h; (try dsimp only at h); go_simp <;> first | decide | assumption
        try simp only [Act.put, gA, gS, gZ, sA, sZ, sS]
        refine tk 7 (.int .i64 23) rfl (.inl ⟨by rfl, ?_⟩) ?_
        · intro _ h; (try dsimp only at h); go_simp <;> first | decide | assumption
        try simp only [Act.put, gA, gS, gZ, sA, sZ, sS]
        refine tk 8 (.int .u64 8388608) rfl (.inl ⟨by rfl, ?_⟩) ?_
        · intro _ h; (try dsimp only at h); go_simp <;> first | decide | assumption
        try simp only [Act.put, gA, gS, gZ, sA, sZ, sS]
        refine tk 9 (.bool true) rfl (.inl ⟨by rfl, ?_⟩) ?_
        · intro _ h; (try dsimp only at h); go_simp <;> first | decide | assumption
        try simp only [Act.put, gA, gS, gZ, sA, sZ, sS]
        refine tk 10 (.bool true) rfl (.inl ⟨by rfl, ?_⟩) ?_
        · intro _ h; (try dsimp only at h); go_simp <;> first | decide | assumption
        try simp only [Act.put, gA, gS, gZ, sA, sZ, sS]
        refine tk 11 (.slice ba 3 bc) rfl (.inl ⟨by rfl, ?_⟩) ?_
        · intro _ h; (try dsimp only at h); go_simp <;> first | decide | assumption
        try simp only [Act.put, gA, gS, gZ, sA, sZ, sS]
        refine tk 12 (.bool true) rfl (.inl ⟨by rfl, ?_⟩) ?_
        · intro _ h; (try dsimp only at h); go_simp <;> first | decide | assumption
        try simp only [Act.put, gA, gS, gZ, sA, sZ, sS]
        refine wpAnyH_done (by kernel_rfl) ?_ _
        go_wp2_with fail
        go_ret2
        rw [← HR.out]
        exact ⟨⟨_, _, _, rfl, ⟨ht.row, ht.le, ht.max, fun hp => by obtain ⟨g, e1, e2, e3⟩ := ht.own hp; exact ⟨g, e1, Nat.le_trans hb0.size e2, e3⟩⟩⟩, hHeld⟩
      · have GLE : ∀ _ : Unit, ¬ (n : Int) < 8388608 := fun _ => by omega
        show Calls _ _ _ _ (RefTo w (Option.map (fun n : Nat => bytesL (n : Int) 3) (if n ≤ 8388608 - 1 then some n else none)))
        rw [if_neg hle]
        show Calls _ _ _ _ (RefTo w none)
        clear hle nm
        go_enter Tryz.func34, Tryz.ntmps34
        go_wp2_with fail
        refine (hS _).mono ?_
        rintro e w ⟨rfl, rfl⟩
        go_wp2_with fail
        refine (hKd _).mono ?_
        rintro e w ⟨rfl, rfl⟩
        go_wp2_with fail
        refine (hM _).mono ?_
        rintro e w ⟨rfl, rfl⟩
        go_wp2_with fail
        refine (hN _).mono ?_
        rintro e w ⟨rfl, rfl⟩
        go_wp2_with fail
        have gle := GLE ()
        refine wp_region_held_drew (S := fun x => Below w.heap.size w x) (by kernel_rfl) (Below.drew (Below.refl _ _)) (fun hHeld => ?_)
        refine tk 0 (.int .u64 (n : Int)) rfl (.inl ⟨by rfl, ?_⟩) ?_
        · intro _ h; (try dsimp only at h); go_simp <;> first | decide | assumption
        try simp only [Act.put, gA, gS, gZ, sA, sZ, sS]
        refine tk 1 (.int .i64 3) rfl (.inl ⟨by rfl, ?_⟩) ?_
        · intro _ h; (try dsimp only at h); go_simp <;> first | decide | assumption
        try simp only [Act.put, gA, gS, gZ, sA, sZ, sS]
        refine tk 3 (.bool true) rfl (.inl ⟨by rfl, ?_⟩) ?_
        · intro _ h; (try dsimp only at h); go_simp <;> first | decide | assumption
        try simp only [Act.put, gA, gS, gZ, sA, sZ, sS]
        refine wpAnyH_ready (rs := [2]) (by kernel_rfl) (by simp) ?_
        refine AllReadyH.cons rfl (fun K' hK => ?_) AllReadyH.nil
        rw [if_pos (by rfl)]
        simp only [List.getElem_toArray, List.getElem_cons_succ, List.getElem_cons_zero]
        go_wp2_with fail
        refine (bytesD_any ((n : Int)) 3 _ (by decide)).mono ?_
        rintro e z ⟨⟨ba, bc, rfl, ht⟩, hbx⟩
        try go_wp2_with fail
        refine hK.out _ _ (Below.andThen hHeld hbx) (fun hHeld => ?_)
        clear hK K'
        try simp only [Act.put, gA, gS, gZ, sA, sZ, sS]
        refine tk 4 (.bool true) rfl (.inl ⟨by rfl, ?_⟩) ?_
        · intro _ h; (try dsimp only at h); go_simp <;> first | decide | assumption
        try simp only [Act.put, gA, gS, gZ, sA, sZ, sS]
        refine tk 5 (.int .u64 (n : Int)) rfl (.inl ⟨by rfl, ?_⟩) ?_
        · intro _ h; (try dsimp only at h); go_simp <;> first | decide | assumption
        try simp only [Act.put, gA, gS, gZ, sA, sZ, sS]
        refine tk 6 (.int .i64 24) rfl (.inl ⟨by rfl, ?_⟩) ?_
        · intro _ h; (try dsimp only at h); go_simp <;> first | decide | assumption
        try simp only [Act.put, gA, gS, gZ, sA, sZ, sS]
        refine tk 7 (.int .i64 23) rfl (.inl ⟨by rfl, ?_⟩) ?_
        · intro _ h; (try dsimp only at h); go_simp <;> first | decide | assumption
        try simp only [Act.put, gA, gS, gZ, sA, sZ, sS]
        refine tk 8 (.int .u64 8388608) rfl (.inl ⟨by rfl, ?_⟩) ?_
        · intro _ h; (try dsimp only at h); go_simp <;> first | decide | assumption
        try simp only [Act.put, gA, gS, gZ, sA, sZ, sS]
        refine tk 9 (.bool false) rfl (.inl ⟨by rfl, ?_⟩) ?_
        · intro _ h; (try dsimp only at h); go_simp <;> first | decide | assumption
        try simp only [Act.put, gA, gS, gZ, sA, sZ, sS]
        refine tk 10 (.bool false) rfl (.inl ⟨by rfl, ?_⟩) ?_
        · intro _ h; (try dsimp only at h); go_simp <;> first | decide | assumption
        try simp only [Act.put, gA, gS, gZ, sA, sZ, sS]
        refine tk 11 (.slice ba 3 bc) rfl (.inl ⟨by rfl, ?_⟩) ?_
        · intro _ h; (try dsimp only at h); go_simp <;> first | decide | assumption
        try simp only [Act.put, gA, gS, gZ, sA, sZ, sS]
        refine tk 12 (.bool false) rfl (.inl ⟨by rfl, ?_⟩) ?_
        · intro _ h; (try dsimp only at h); go_simp <;> first | decide | assumption
        try simp only [Act.put, gA, gS, gZ, sA, sZ, sS]
        refine wpAnyH_done (by kernel_rfl) ?_ _
        go_wp2_with fail
        go_ret2
        exact ⟨⟨_, rfl⟩, hHeld⟩

set_option linter.unusedSimpArgs false in
set_option maxHeartbeats 4000000 in
set_option maxRecDepth 100000 in
theorem wholeI4 (t : Int) (l : List UInt8) (w : World) (hk : kindN t = 2) (hs : sizeN t = 4) (hl : l.length ≤ 1000000) :
    Calls Tryz.prog 34 #[.int .u8 t, .string (str l)] w (RefTo w (intV t l)) := by
  have hlt : letN t = 105 := by unfold letN; rw [hk]; rfl
  have hS := fun w => refSize_any t w
  have hKd := fun w => refKind_any t w
  rw [hs] at hS
  rw [hlt] at hKd
  have hM := fun w => minusD_any l w
  have IV : intV t l = (sgnV 2147483648 (2147483648 - 1) l).map fun n : Nat => bytesL (n : Int) 4 := sgn_int t l 4 hs hk
  rw [IV]
  unfold sgnV
  unfold minT at hM
  by_cases hh : l.head? = some 45
  · rw [if_pos hh, decV_most 2147483648 (by decide)]
    rw [if_pos hh] at hM
    have hN := fun w => refNumberD_any l.tail w (by rw [List.length_tail]; omega)
    have DM := fun n h => decV_max l.tail n h
    clear IV hh hlt
    generalize str l = sl at *
    generalize str l.tail = st at *
    generalize decV 18446744073709551615 l.tail = v at *
    cases v with
    | none =>
      replace hN : ∀ w : World, Calls Tryz.prog 37 #[.string st] w fun e w' => e = .returned (.tuple #[.int .u64 0, .bool false]) ∧ w' = w := hN
      show Calls _ _ _ _ (RefTo w none)
      clear DM
      go_enter Tryz.func34, Tryz.ntmps34
      go_wp2_with fail
      refine (hS _).mono ?_
      rintro e w ⟨rfl, rfl⟩
      go_wp2_with fail
      refine (hKd _).mono ?_
      rintro e w ⟨rfl, rfl⟩
      go_wp2_with fail
      refine (hM _).mono ?_
      rintro e w ⟨rfl, rfl⟩
      go_wp2_with fail
      refine (hN _).mono ?_
      rintro e w ⟨rfl, rfl⟩
      go_wp2_with fail
      refine wp_region_held_drew (S := fun x => Below w.heap.size w x) (by kernel_rfl) (Below.drew (Below.refl _ _)) (fun hHeld => ?_)
      refine tk 0 (.int .u64 0) rfl (.inl ⟨by rfl, ?_⟩) ?_
      · intro _ h; (try dsimp only at h); go_simp <;> first | decide | assumption
      try simp only [Act.put, gA, gS, gZ, sA, sZ, sS]
      refine tk 1 (.int .u64 0) rfl (.inl ⟨by rfl, ?_⟩) ?_
      · intro _ h; (try dsimp only at h); go_simp <;> first | decide | assumption
      try simp only [Act.put, gA, gS, gZ, sA, sZ, sS]
      refine tk 2 (.int .i64 4) rfl (.inl ⟨by rfl, ?_⟩) ?_
      · intro _ h; (try dsimp only at h); go_simp <;> first | decide | assumption
      try simp only [Act.put, gA, gS, gZ, sA, sZ, sS]
      refine tk 4 (.bool false) rfl (.inl ⟨by rfl, ?_⟩) ?_
      · intro _ h; (try dsimp only at h); go_simp <;> first | decide | assumption
      try simp only [Act.put, gA, gS, gZ, sA, sZ, sS]
      refine wpAnyH_ready (rs := [3]) (by kernel_rfl) (by simp) ?_
      refine AllReadyH.cons rfl (fun K' hK => ?_) AllReadyH.nil
      rw [if_pos (by rfl)]
      simp only [List.getElem_toArray, List.getElem_cons_succ, List.getElem_cons_zero]
      go_wp2_with fail
      refine (bytesD_any (0) 4 _ (by decide)).mono ?_
      rintro e z ⟨⟨ba, bc, rfl, ht⟩, hbx⟩
      try go_wp2_with fail
      refine hK.out _ _ (Below.andThen hHeld hbx) (fun hHeld => ?_)
      clear hK K'
      try simp only [Act.put, gA, gS, gZ, sA, sZ, sS]
      refine tk 5 (.bool false) rfl (.inl ⟨by rfl, ?_⟩) ?_
      · intro _ h; (try dsimp only at h); go_simp <;> first | decide | assumption
      try simp only [Act.put, gA, gS, gZ, sA, sZ, sS]
      refine tk 6 undef rfl (.inr ⟨by rfl, rfl⟩) ?_
      try simp only [Act.put, gA, gS, gZ, sA, sZ, sS]
      refine tk 7 undef rfl (.inr ⟨by rfl, rfl⟩) ?_
      try simp only [Act.put, gA, gS, gZ, sA, sZ, sS]
      refine tk 8 (.bool false) rfl (.inl ⟨by rfl, ?_⟩) ?_
      · intro _ h; (try dsimp only at h); go_simp <;> first | decide | assumption
      try simp only [Act.put, gA, gS, gZ, sA, sZ, sS]
      refine tk 9 (.bool false) rfl (.inl ⟨by rfl, ?_⟩) ?_
      · intro _ h; (try dsimp only at h); go_simp <;> first | decide | assumption
      try simp only [Act.put, gA, gS, gZ, sA, sZ, sS]
      refine tk 10 undef rfl (.inr ⟨by rfl, rfl⟩) ?_
      try simp only [Act.put, gA, gS, gZ, sA, sZ, sS]
      refine tk 11 undef rfl (.inr ⟨by rfl, rfl⟩) ?_
      try simp only [Act.put, gA, gS, gZ, sA, sZ, sS]
      refine tk 12 undef rfl (.inr ⟨by rfl, rfl⟩) ?_
      try simp only [Act.put, gA, gS, gZ, sA, sZ, sS]
      refine tk 13 undef rfl (.inr ⟨by rfl, rfl⟩) ?_
      try simp only [Act.put, gA, gS, gZ, sA, sZ, sS]
      refine tk 14 undef rfl (.inr ⟨by rfl, rfl⟩) ?_
      try simp only [Act.put, gA, gS, gZ, sA, sZ, sS]
      refine tk 15 (.bool false) rfl (.inl ⟨by rfl, ?_⟩) ?_
      · intro _ h; (try dsimp only at h); go_simp <;> first | decide | assumption
      try simp only [Act.put, gA, gS, gZ, sA, sZ, sS]
      refine tk 16 (.slice ba 4 bc) rfl (.inl ⟨by rfl, ?_⟩) ?_
      · intro _ h; (try dsimp only at h); go_simp <;> first | decide | assumption
      try simp only [Act.put, gA, gS, gZ, sA, sZ, sS]
      refine tk 17 (.bool false) rfl (.inl ⟨by rfl, ?_⟩) ?_
      · intro _ h; (try dsimp only at h); go_simp <;> first | decide | assumption
      try simp only [Act.put, gA, gS, gZ, sA, sZ, sS]
      refine wpAnyH_done (by kernel_rfl) ?_ _
      go_wp2_with fail
      go_ret2
      exact ⟨⟨_, rfl⟩, hHeld⟩
    | some n =>
      replace hN : ∀ w : World, Calls Tryz.prog 37 #[.string st] w fun e w' => e = .returned (.tuple #[.int .u64 (n : Int), .bool true]) ∧ w' = w := hN
      have nm := DM n rfl
      clear DM
      by_cases h0 : n = 0
      · subst h0
        show Calls _ _ _ _ (RefTo w none)
        go_enter Tryz.func34, Tryz.ntmps34
        go_wp2_with fail
        refine (hS _).mono ?_
        rintro e w ⟨rfl, rfl⟩
        go_wp2_with fail
        refine (hKd _).mono ?_
        rintro e w ⟨rfl, rfl⟩
        go_wp2_with fail
        refine (hM _).mono ?_
        rintro e w ⟨rfl, rfl⟩
        go_wp2_with fail
        refine (hN _).mono ?_
        rintro e w ⟨rfl, rfl⟩
        go_wp2_with fail
        refine wp_region_held_drew (S := fun x => Below w.heap.size w x) (by kernel_rfl) (Below.drew (Below.refl _ _)) (fun hHeld => ?_)
        refine tk 0 (.int .u64 0) rfl (.inl ⟨by rfl, ?_⟩) ?_
        · intro _ h; (try dsimp only at h); go_simp <;> first | decide | assumption
        try simp only [Act.put, gA, gS, gZ, sA, sZ, sS]
        refine tk 1 (.int .u64 0) rfl (.inl ⟨by rfl, ?_⟩) ?_
        · intro _ h; (try dsimp only at h); go_simp <;> first | decide | assumption
        try simp only [Act.put, gA, gS, gZ, sA, sZ, sS]
        refine tk 2 (.int .i64 4) rfl (.inl ⟨by rfl, ?_⟩) ?_
        · intro _ h; (try dsimp only at h); go_simp <;> first | decide | assumption
        try simp only [Act.put, gA, gS, gZ, sA, sZ, sS]
        refine tk 4 (.bool true) rfl (.inl ⟨by rfl, ?_⟩) ?_
        · intro _ h; (try dsimp only at h); go_simp <;> first | decide | assumption
        try simp only [Act.put, gA, gS, gZ, sA, sZ, sS]
        refine wpAnyH_ready (rs := [3]) (by kernel_rfl) (by simp) ?_
        refine AllReadyH.cons rfl (fun K' hK => ?_) AllReadyH.nil
        rw [if_pos (by rfl)]
        simp only [List.getElem_toArray, List.getElem_cons_succ, List.getElem_cons_zero]
        go_wp2_with fail
        refine (bytesD_any (0) 4 _ (by decide)).mono ?_
        rintro e z ⟨⟨ba, bc, rfl, ht⟩, hbx⟩
        try go_wp2_with fail
        refine hK.out _ _ (Below.andThen hHeld hbx) (fun hHeld => ?_)
        clear hK K'
        try simp only [Act.put, gA, gS, gZ, sA, sZ, sS]
        refine tk 5 (.bool true) rfl (.inl ⟨by rfl, ?_⟩) ?_
        · intro _ h; (try dsimp only at h); go_simp <;> first | decide | assumption
        try simp only [Act.put, gA, gS, gZ, sA, sZ, sS]
        refine tk 6 (.int .u64 0) rfl (.inl ⟨by rfl, ?_⟩) ?_
        · intro _ h; (try dsimp only at h); go_simp <;> first | decide | assumption
        try simp only [Act.put, gA, gS, gZ, sA, sZ, sS]
        refine tk 7 (.bool false) rfl (.inl ⟨by rfl, ?_⟩) ?_
        · intro _ h; (try dsimp only at h); go_simp <;> first | decide | assumption
        try simp only [Act.put, gA, gS, gZ, sA, sZ, sS]
        refine tk 8 (.bool false) rfl (.inl ⟨by rfl, ?_⟩) ?_
        · intro _ h; (try dsimp only at h); go_simp <;> first | decide | assumption
        try simp only [Act.put, gA, gS, gZ, sA, sZ, sS]
        refine tk 9 (.bool false) rfl (.inl ⟨by rfl, ?_⟩) ?_
        · intro _ h; (try dsimp only at h); go_simp <;> first | decide | assumption
        try simp only [Act.put, gA, gS, gZ, sA, sZ, sS]
        refine tk 10 undef rfl (.inr ⟨by rfl, rfl⟩) ?_
        try simp only [Act.put, gA, gS, gZ, sA, sZ, sS]
        refine tk 11 undef rfl (.inr ⟨by rfl, rfl⟩) ?_
        try simp only [Act.put, gA, gS, gZ, sA, sZ, sS]
        refine tk 12 undef rfl (.inr ⟨by rfl, rfl⟩) ?_
        try simp only [Act.put, gA, gS, gZ, sA, sZ, sS]
        refine tk 13 undef rfl (.inr ⟨by rfl, rfl⟩) ?_
        try simp only [Act.put, gA, gS, gZ, sA, sZ, sS]
        refine tk 14 undef rfl (.inr ⟨by rfl, rfl⟩) ?_
        try simp only [Act.put, gA, gS, gZ, sA, sZ, sS]
        refine tk 15 (.bool false) rfl (.inl ⟨by rfl, ?_⟩) ?_
        · intro _ h; (try dsimp only at h); go_simp <;> first | decide | assumption
        try simp only [Act.put, gA, gS, gZ, sA, sZ, sS]
        refine tk 16 (.slice ba 4 bc) rfl (.inl ⟨by rfl, ?_⟩) ?_
        · intro _ h; (try dsimp only at h); go_simp <;> first | decide | assumption
        try simp only [Act.put, gA, gS, gZ, sA, sZ, sS]
        refine tk 17 (.bool false) rfl (.inl ⟨by rfl, ?_⟩) ?_
        · intro _ h; (try dsimp only at h); go_simp <;> first | decide | assumption
        try simp only [Act.put, gA, gS, gZ, sA, sZ, sS]
        refine wpAnyH_done (by kernel_rfl) ?_ _
        go_wp2_with fail
        go_ret2
        exact ⟨⟨_, rfl⟩, hHeld⟩
      have g0 : (0 : Int) < (n : Int) := by omega
      have g0n : 0 < n := by omega
      have wq : IntKind.u64.wrap (-(n : Int)) = ((18446744073709551616 - n : Nat) : Int) := by rw [IntKind.wrap_u64]; omega
      have wq' : IntKind.u64.wrap (0 - (n : Int)) = ((18446744073709551616 - n : Nat) : Int) := by rw [IntKind.wrap_u64]; omega
      by_cases hle : n ≤ 2147483648
      · have GLE : ∀ _ : Unit, (n : Int) ≤ 2147483648 := fun _ => by omega
        show Calls _ _ _ _ (RefTo w (Option.map (fun n : Nat => bytesL (n : Int) 4) (Option.bind (if n ≤ 2147483648 then some n else none) fun n => if n = 0 then none else some (18446744073709551616 - n))))
        rw [if_pos hle]
        show Calls _ _ _ _ (RefTo w (Option.map (fun n : Nat => bytesL (n : Int) 4) (if n = 0 then none else some (18446744073709551616 - n))))
        rw [if_neg h0]
        show Calls _ _ _ _ (RefTo w (some (bytesL ((18446744073709551616 - n : Nat) : Int) 4)))
        clear hle h0 nm
        generalize 18446744073709551616 - n = q at *
        obtain ⟨R, HR⟩ : ∃ R, Hid (some (bytesL (q : Int) 4) = R) := ⟨_, rfl⟩
        rw [HR.out]
        go_enter Tryz.func34, Tryz.ntmps34
        go_wp2_with fail
        refine (hS _).mono ?_
        rintro e w ⟨rfl, rfl⟩
        go_wp2_with fail
        refine (hKd _).mono ?_
        rintro e w ⟨rfl, rfl⟩
        go_wp2_with fail
        refine (hM _).mono ?_
        rintro e w ⟨rfl, rfl⟩
        go_wp2_with fail
        refine (hN _).mono ?_
        rintro e w ⟨rfl, rfl⟩
        go_wp2_with fail
        have gle := GLE ()
        refine wp_region_held_drew (S := fun x => Below w.heap.size w x) (by kernel_rfl) (Below.drew (Below.refl _ _)) (fun hHeld => ?_)
        refine tk 0 (.int .u64 (n : Int)) rfl (.inl ⟨by rfl, ?_⟩) ?_
        · intro _ h; (try dsimp only at h); go_simp <;> first | decide | assumption
        try simp only [Act.put, gA, gS, gZ, sA, sZ, sS]
        refine tk 1 (.int .u64 (q : Int)) rfl (.inl ⟨by rfl, ?_⟩) ?_
        · intro _ h; (try dsimp only at h); go_simp <;> first | decide | assumption
        try simp only [Act.put, gA, gS, gZ, sA, sZ, sS]
        refine tk 2 (.int .i64 4) rfl (.inl ⟨by rfl, ?_⟩) ?_
        · intro _ h; (try dsimp only at h); go_simp <;> first | decide | assumption
        try simp only [Act.put, gA, gS, gZ, sA, sZ, sS]
        refine tk 4 (.bool true) rfl (.inl ⟨by rfl, ?_⟩) ?_
        · intro _ h; (try dsimp only at h); go_simp <;> first | decide | assumption
        try simp only [Act.put, gA, gS, gZ, sA, sZ, sS]
        refine wpAnyH_ready (rs := [3]) (by kernel_rfl) (by simp) ?_
        refine AllReadyH.cons rfl (fun K' hK => ?_) AllReadyH.nil
        rw [if_pos (by rfl)]
        simp only [List.getElem_toArray, List.getElem_cons_succ, List.getElem_cons_zero]
        go_wp2_with fail
        refine (bytesD_any ((q : Int)) 4 _ (by decide)).mono ?_
        rintro e z ⟨⟨ba, bc, rfl, ht⟩, hbx⟩
        try go_wp2_with fail
        have hb0 := hHeld
        refine hK.out _ _ (Below.andThen hHeld hbx) (fun hHeld => ?_)
        clear hK K'
        try simp only [Act.put, gA, gS, gZ, sA, sZ, sS]
        refine tk 5 (.bool true) rfl (.inl ⟨by rfl, ?_⟩) ?_
        · intro _ h; (try dsimp only at h); go_simp <;> first | decide | assumption
        try simp only [Act.put, gA, gS, gZ, sA, sZ, sS]
        refine tk 6 (.int .u64 (n : Int)) rfl (.inl ⟨by rfl, ?_⟩) ?_
        · intro _ h; (try dsimp only at h); go_simp <;> first | decide | assumption
        try simp only [Act.put, gA, gS, gZ, sA, sZ, sS]
        refine tk 7 (.bool true) rfl (.inl ⟨by rfl, ?_⟩) ?_
        · intro _ h; (try dsimp only at h); go_simp <;> first | decide | assumption
        try simp only [Act.put, gA, gS, gZ, sA, sZ, sS]
        refine tk 8 (.bool true) rfl (.inl ⟨by rfl, ?_⟩) ?_
        · intro _ h; (try dsimp only at h); go_simp <;> first | decide | assumption
        try simp only [Act.put, gA, gS, gZ, sA, sZ, sS]
        refine tk 9 (.bool true) rfl (.inl ⟨by rfl, ?_⟩) ?_
        · intro _ h; (try dsimp only at h); go_simp <;> first | decide | assumption
        try simp only [Act.put, gA, gS, gZ, sA, sZ, sS]
        refine tk 10 (.int .u64 (n : Int)) rfl (.inl ⟨by rfl, ?_⟩) ?_
        · intro _ h; (try dsimp only at h); go_simp <;> first | decide | assumption
        try simp only [Act.put, gA, gS, gZ, sA, sZ, sS]
        refine tk 11 (.int .i64 32) rfl (.inl ⟨by rfl, ?_⟩) ?_
        · intro _ h; (try dsimp only at h); go_simp <;> first | decide | assumption
        try simp only [Act.put, gA, gS, gZ, sA, sZ, sS]
        refine tk 12 (.int .i64 31) rfl (.inl ⟨by rfl, ?_⟩) ?_
        · intro _ h; (try dsimp only at h); go_simp <;> first | decide | assumption
        try simp only [Act.put, gA, gS, gZ, sA, sZ, sS]
        refine tk 13 (.int .u64 2147483648) rfl (.inl ⟨by rfl, ?_⟩) ?_
        · intro _ h; (try dsimp only at h); go_simp <;> first | decide | assumption
        try simp only [Act.put, gA, gS, gZ, sA, sZ, sS]
        refine tk 14 (.bool true) rfl (.inl ⟨by rfl, ?_⟩) ?_
        · intro _ h; (try dsimp only at h); go_simp <;> first | decide | assumption
        try simp only [Act.put, gA, gS, gZ, sA, sZ, sS]
        refine tk 15 (.bool true) rfl (.inl ⟨by rfl, ?_⟩) ?_
        · intro _ h; (try dsimp only at h); go_simp <;> first | decide | assumption
        try simp only [Act.put, gA, gS, gZ, sA, sZ, sS]
        refine tk 16 (.slice ba 4 bc) rfl (.inl ⟨by rfl, ?_⟩) ?_
        · intro _ h; (try dsimp only at h); go_simp <;> first | decide | assumption
        try simp only [Act.put, gA, gS, gZ, sA, sZ, sS]
        refine tk 17 (.bool true) rfl (.inl ⟨by rfl, ?_⟩) ?_
        · intro _ h; (try dsimp only at h); go_simp <;> first | decide | assumption
        try simp only [Act.put, gA, gS, gZ, sA, sZ, sS]
        refine wpAnyH_done (by kernel_rfl) ?_ _
        go_wp2_with fail
        go_ret2
        rw [← HR.out]
        exact ⟨⟨_, _, _, rfl, ⟨ht.row, ht.le, ht.max, fun hp => by obtain ⟨g, e1, e2, e3⟩ := ht.own hp; exact ⟨g, e1, Nat.le_trans hb0.size e2, e3⟩⟩⟩, hHeld⟩
      · have GLE : ∀ _ : Unit, ¬ (n : Int) ≤ 2147483648 := fun _ => by omega
        show Calls _ _ _ _ (RefTo w (Option.map (fun n : Nat => bytesL (n : Int) 4) (Option.bind (if n ≤ 2147483648 then some n else none) fun n => if n = 0 then none else some (18446744073709551616 - n))))
        rw [if_neg hle]
        show Calls _ _ _ _ (RefTo w none)
        clear hle h0 nm
        generalize 18446744073709551616 - n = q at *
        go_enter Tryz.func34, Tryz.ntmps34
        go_wp2_with fail
        refine (hS _).mono ?_
        rintro e w ⟨rfl, rfl⟩
        go_wp2_with fail
        refine (hKd _).mono ?_
        rintro e w ⟨rfl, rfl⟩
        go_wp2_with fail
        refine (hM _).mono ?_
        rintro e w ⟨rfl, rfl⟩
        go_wp2_with fail
        refine (hN _).mono ?_
        rintro e w ⟨rfl, rfl⟩
        go_wp2_with fail
        have gle := GLE ()
        refine wp_region_held_drew (S := fun x => Below w.heap.size w x) (by kernel_rfl) (Below.drew (Below.refl _ _)) (fun hHeld => ?_)
        refine tk 0 (.int .u64 (n : Int)) rfl (.inl ⟨by rfl, ?_⟩) ?_
        · intro _ h; (try dsimp only at h); go_simp <;> first | decide | assumption
        try simp only [Act.put, gA, gS, gZ, sA, sZ, sS]
        refine tk 1 (.int .u64 (q : Int)) rfl (.inl ⟨by rfl, ?_⟩) ?_
        · intro _ h; (try dsimp only at h); go_simp <;> first | decide | assumption
        try simp only [Act.put, gA, gS, gZ, sA, sZ, sS]
        refine tk 2 (.int .i64 4) rfl (.inl ⟨by rfl, ?_⟩) ?_
        · intro _ h; (try dsimp only at h); go_simp <;> first | decide | assumption
        try simp only [Act.put, gA, gS, gZ, sA, sZ, sS]
        refine tk 4 (.bool true) rfl (.inl ⟨by rfl, ?_⟩) ?_
        · intro _ h; (try dsimp only at h); go_simp <;> first | decide | assumption
        try simp only [Act.put, gA, gS, gZ, sA, sZ, sS]
        refine wpAnyH_ready (rs := [3]) (by kernel_rfl) (by simp) ?_
        refine AllReadyH.cons rfl (fun K' hK => ?_) AllReadyH.nil
        rw [if_pos (by rfl)]
        simp only [List.getElem_toArray, List.getElem_cons_succ, List.getElem_cons_zero]
        go_wp2_with fail
        refine (bytesD_any ((q : Int)) 4 _ (by decide)).mono ?_
        rintro e z ⟨⟨ba, bc, rfl, ht⟩, hbx⟩
        try go_wp2_with fail
        refine hK.out _ _ (Below.andThen hHeld hbx) (fun hHeld => ?_)
        clear hK K'
        try simp only [Act.put, gA, gS, gZ, sA, sZ, sS]
        refine tk 5 (.bool true) rfl (.inl ⟨by rfl, ?_⟩) ?_
        · intro _ h; (try dsimp only at h); go_simp <;> first | decide | assumption
        try simp only [Act.put, gA, gS, gZ, sA, sZ, sS]
        refine tk 6 (.int .u64 (n : Int)) rfl (.inl ⟨by rfl, ?_⟩) ?_
        · intro _ h; (try dsimp only at h); go_simp <;> first | decide | assumption
        try simp only [Act.put, gA, gS, gZ, sA, sZ, sS]
        refine tk 7 (.bool true) rfl (.inl ⟨by rfl, ?_⟩) ?_
        · intro _ h; (try dsimp only at h); go_simp <;> first | decide | assumption
        try simp only [Act.put, gA, gS, gZ, sA, sZ, sS]
        refine tk 8 (.bool true) rfl (.inl ⟨by rfl, ?_⟩) ?_
        · intro _ h; (try dsimp only at h); go_simp <;> first | decide | assumption
        try simp only [Act.put, gA, gS, gZ, sA, sZ, sS]
        refine tk 9 (.bool true) rfl (.inl ⟨by rfl, ?_⟩) ?_
        · intro _ h; (try dsimp only at h); go_simp <;> first | decide | assumption
        try simp only [Act.put, gA, gS, gZ, sA, sZ, sS]
        refine tk 10 (.int .u64 (n : Int)) rfl (.inl ⟨by rfl, ?_⟩) ?_
        · intro _ h; (try dsimp only at h); go_simp <;> first | decide | assumption
        try simp only [Act.put, gA, gS, gZ, sA, sZ, sS]
        refine tk 11 (.int .i64 32) rfl (.inl ⟨by rfl, ?_⟩) ?_
        · intro _ h; (try dsimp only at h); go_simp <;> first | decide | assumption
        try simp only [Act.put, gA, gS, gZ, sA, sZ, sS]
        refine tk 12 (.int .i64 31) rfl (.inl ⟨by rfl, ?_⟩) ?_
        · intro _ h; (try dsimp only at h); go_simp <;> first | decide | assumption
        try simp only [Act.put, gA, gS, gZ, sA, sZ, sS]
        refine tk 13 (.int .u64 2147483648) rfl (.inl ⟨by rfl, ?_⟩) ?_
        · intro _ h; (try dsimp only at h); go_simp <;> first | decide | assumption
        try simp only [Act.put, gA, gS, gZ, sA, sZ, sS]
        refine tk 14 (.bool false) rfl (.inl ⟨by rfl, ?_⟩) ?_
        · intro _ h; (try dsimp only at h); go_simp <;> first | decide | assumption
        try simp only [Act.put, gA, gS, gZ, sA, sZ, sS]
        refine tk 15 (.bool false) rfl (.inl ⟨by rfl, ?_⟩) ?_
        · intro _ h; (try dsimp only at h); go_simp <;> first | decide | assumption
        try simp only [Act.put, gA, gS, gZ, sA, sZ, sS]
        refine tk 16 (.slice ba 4 bc) rfl (.inl ⟨by rfl, ?_⟩) ?_
        · intro _ h; (try dsimp only at h); go_simp <;> first | decide | assumption
        try simp only [Act.put, gA, gS, gZ, sA, sZ, sS]
        refine tk 17 (.bool false) rfl (.inl ⟨by rfl, ?_⟩) ?_
        · intro _ h; (try dsimp only at h); go_simp <;> first | decide | assumption
        try simp only [Act.put, gA, gS, gZ, sA, sZ, sS]
        refine wpAnyH_done (by kernel_rfl) ?_ _
        go_wp2_with fail
        go_ret2
        exact ⟨⟨_, rfl⟩, hHeld⟩
  · rw [if_neg hh, decV_most (2147483648 - 1) (by decide)]
    rw [if_neg hh] at hM
    have hN := fun w => refNumberD_any l w hl
    have DM := fun n h => decV_max l n h
    clear IV hh hlt
    generalize str l = sl at *
    generalize decV 18446744073709551615 l = v at *
    cases v with
    | none =>
      replace hN : ∀ w : World, Calls Tryz.prog 37 #[.string sl] w fun e w' => e = .returned (.tuple #[.int .u64 0, .bool false]) ∧ w' = w := hN
      show Calls _ _ _ _ (RefTo w none)
      clear DM
      go_enter Tryz.func34, Tryz.ntmps34
      go_wp2_with fail
      refine (hS _).mono ?_
      rintro e w ⟨rfl, rfl⟩
      go_wp2_with fail
      refine (hKd _).mono ?_
      rintro e w ⟨rfl, rfl⟩
      go_wp2_with fail
      refine (hM _).mono ?_
      rintro e w ⟨rfl, rfl⟩
      go_wp2_with fail
      refine (hN _).mono ?_
      rintro e w ⟨rfl, rfl⟩
      go_wp2_with fail
      refine wp_region_held_drew (S := fun x => Below w.heap.size w x) (by kernel_rfl) (Below.drew (Below.refl _ _)) (fun hHeld => ?_)
      refine tk 0 (.int .u64 0) rfl (.inl ⟨by rfl, ?_⟩) ?_
      · intro _ h; (try dsimp only at h); go_simp <;> first | decide | assumption
      try simp only [Act.put, gA, gS, gZ, sA, sZ, sS]
      refine tk 1 (.int .i64 4) rfl (.inl ⟨by rfl, ?_⟩) ?_
      · intro _ h; (try dsimp only at h); go_simp <;> first | decide | assumption
      try simp only [Act.put, gA, gS, gZ, sA, sZ, sS]
      refine tk 3 (.bool false) rfl (.inl ⟨by rfl, ?_⟩) ?_
      · intro _ h; (try dsimp only at h); go_simp <;> first | decide | assumption
      try simp only [Act.put, gA, gS, gZ, sA, sZ, sS]
      refine wpAnyH_ready (rs := [2]) (by kernel_rfl) (by simp) ?_
      refine AllReadyH.cons rfl (fun K' hK => ?_) AllReadyH.nil
      rw [if_pos (by rfl)]
      simp only [List.getElem_toArray, List.getElem_cons_succ, List.getElem_cons_zero]
      go_wp2_with fail
      refine (bytesD_any (0) 4 _ (by decide)).mono ?_
      rintro e z ⟨⟨ba, bc, rfl, ht⟩, hbx⟩
      try go_wp2_with fail
      refine hK.out _ _ (Below.andThen hHeld hbx) (fun hHeld => ?_)
      clear hK K'
      try simp only [Act.put, gA, gS, gZ, sA, sZ, sS]
      refine tk 4 (.bool false) rfl (.inl ⟨by rfl, ?_⟩) ?_
      · intro _ h; (try dsimp only at h); go_simp <;> first | decide | assumption
      try simp only [Act.put, gA, gS, gZ, sA, sZ, sS]
      refine tk 5 undef rfl (.inr ⟨by rfl, rfl⟩) ?_
      try simp only [Act.put, gA, gS, gZ, sA, sZ, sS]
      refine tk 6 undef rfl (.inr ⟨by rfl, rfl⟩) ?_
      try simp only [Act.put, gA, gS, gZ, sA, sZ, sS]
      refine tk 7 undef rfl (.inr ⟨by rfl, rfl⟩) ?_
      try simp only [Act.put, gA, gS, gZ, sA, sZ, sS]
      refine tk 8 undef rfl (.inr ⟨by rfl, rfl⟩) ?_
      try simp only [Act.put, gA, gS, gZ, sA, sZ, sS]
      refine tk 9 undef rfl (.inr ⟨by rfl, rfl⟩) ?_
      try simp only [Act.put, gA, gS, gZ, sA, sZ, sS]
      refine tk 10 (.bool false) rfl (.inl ⟨by rfl, ?_⟩) ?_
      · intro _ h; (try dsimp only at h); go_simp <;> first | decide | assumption
      try simp only [Act.put, gA, gS, gZ, sA, sZ, sS]
      refine tk 11 (.slice ba 4 bc) rfl (.inl ⟨by rfl, ?_⟩) ?_
      · intro _ h; (try dsimp only at h); go_simp <;> first | decide | assumption
      try simp only [Act.put, gA, gS, gZ, sA, sZ, sS]
      refine tk 12 (.bool false) rfl (.inl ⟨by rfl, ?_⟩) ?_
      · intro _ h; (try dsimp only at h); go_simp <;> first | decide | assumption
      try simp only [Act.put, gA, gS, gZ, sA, sZ, sS]
      refine wpAnyH_done (by kernel_rfl) ?_ _
      go_wp2_with fail
      go_ret2
      exact ⟨⟨_, rfl⟩, hHeld⟩
    | some n =>
      replace hN : ∀ w : World, Calls Tryz.prog 37 #[.string sl] w fun e w' => e = .returned (.tuple #[.int .u64 (n : Int), .bool true]) ∧ w' = w := hN
      have nm := DM n rfl
      clear DM
      by_cases hle : n ≤ 2147483648 - 1
      · have GLE : ∀ _ : Unit, (n : Int) < 2147483648 := fun _ => by omega
        show Calls _ _ _ _ (RefTo w (Option.map (fun n : Nat => bytesL (n : Int) 4) (if n ≤ 2147483648 - 1 then some n else none)))
        rw [if_pos hle]
        show Calls _ _ _ _ (RefTo w (some (bytesL (n : Int) 4)))
        obtain ⟨R, HR⟩ : ∃ R, Hid (some (bytesL (n : Int) 4) = R) := ⟨_, rfl⟩
        rw [HR.out]
        clear hle nm
        go_enter Tryz.func34, Tryz.ntmps34
        go_wp2_with fail
        refine (hS _).mono ?_
        rintro e w ⟨rfl, rfl⟩
        go_wp2_with fail
        refine (hKd _).mono ?_
        rintro e w ⟨rfl, rfl⟩
        go_wp2_with fail
        refine (hM _).mono ?_
        rintro e w ⟨rfl, rfl⟩
        go_wp2_with fail
        refine (hN _).mono ?_
        rintro e w ⟨rfl, rfl⟩
        go_wp2_with fail
        have gle := GLE ()
        refine wp_region_held_drew (S := fun x => Below w.heap.size w x) (by kernel_rfl) (Below.drew (Below.refl _ _)) (fun hHeld => ?_)
        refine tk 0 (.int .u64 (n : Int)) rfl (.inl ⟨by rfl, ?_⟩) ?_
        · intro _ h; (try dsimp only at h); go_simp <;> first | decide | assumption
        try simp only [Act.put, gA, gS, gZ, sA, sZ, sS]
        refine tk 1 (.int .i64 4) rfl (.inl ⟨by rfl, ?_⟩) ?_
        · intro _ h; (try dsimp only at h); go_simp <;> first | decide | assumption
        try simp only [Act.put, gA, gS, gZ, sA, sZ, sS]
        refine tk 3 (.bool true) rfl (.inl ⟨by rfl, ?_⟩) ?_
        · intro _ h; (try dsimp only at h); go_simp <;> first | decide | assumption
        try simp only [Act.put, gA, gS, gZ, sA, sZ, sS]
        refine wpAnyH_ready (rs := [2]) (by kernel_rfl) (by simp) ?_
        refine AllReadyH.cons rfl (fun K' hK => ?_) AllReadyH.nil
        rw [if_pos (by rfl)]
        simp only [List.getElem_toArray, List.getElem_cons_succ, List.getElem_cons_zero]
        go_wp2_with fail
        refine (bytesD_any ((n : Int)) 4 _ (by decide)).mono ?_
        rintro e z ⟨⟨ba, bc, rfl, ht⟩, hbx⟩
        try go_wp2_with fail
        have hb0 := hHeld
        refine hK.out _ _ (Below.andThen hHeld hbx) (fun hHeld => ?_)
        clear hK K'
        try simp only [Act.put, gA, gS, gZ, sA, sZ, sS]
        refine tk 4 (.bool true) rfl (.inl ⟨by rfl, ?_⟩) ?_
        · intro _ h; (try dsimp only at h); go_simp <;> first | decide | assumption
        try simp only [Act.put, gA, gS, gZ, sA, sZ, sS]
        refine tk 5 (.int .u64 (n : Int)) rfl (.inl ⟨by rfl, ?_⟩) ?_
        · intro _ h; (try dsimp only at h); go_simp <;> first | decide | assumption
        try simp only [Act.put, gA, gS, gZ, sA, sZ, sS]
        refine tk 6 (.int .i64 32) rfl (.inl ⟨by rfl, ?_⟩) ?_
        · intro _ h; (try dsimp only at h); go_simp <;> first | decide | assumption
        try simp only [Act.put, gA, gS, gZ, sA, sZ, sS]
        refine tk 7 (.int .i64 31) rfl (.inl ⟨by rfl, ?_⟩) ?_
        · intro _ h; (try dsimp only at h); go_simp <;> first | decide | assumption
        try simp only [Act.put, gA, gS, gZ, sA, sZ, sS]
        refine tk 8 (.int .u64 2147483648) rfl (.inl ⟨by rfl, ?_⟩) ?_
        · intro _ h; (try dsimp only at h); go_simp <;> first | decide | assumption
        try simp only [Act.put, gA, gS, gZ, sA, sZ, sS]
        refine tk 9 (.bool true) rfl (.inl ⟨by rfl, ?_⟩) ?_
        · intro _ h; (try dsimp only at h); go_simp <;> first | decide | assumption
        try simp only [Act.put, gA, gS, gZ, sA, sZ, sS]
        refine tk 10 (.bool true) rfl (.inl ⟨by rfl, ?_⟩) ?_
        · intro _ h; (try dsimp only at h); go_simp <;> first | decide | assumption
        try simp only [Act.put, gA, gS, gZ, sA, sZ, sS]
        refine tk 11 (.slice ba 4 bc) rfl (.inl ⟨by rfl, ?_⟩) ?_
        · intro _ h; (try dsimp only at h); go_simp <;> first | decide | assumption
        try simp only [Act.put, gA, gS, gZ, sA, sZ, sS]
        refine tk 12 (.bool true) rfl (.inl ⟨by rfl, ?_⟩) ?_
        · intro _ h; (try dsimp only at h); go_simp <;> first | decide | assumption
        try simp only [Act.put, gA, gS, gZ, sA, sZ, sS]
        refine wpAnyH_done (by kernel_rfl) ?_ _
        go_wp2_with fail
        go_ret2
        rw [← HR.out]
        exact ⟨⟨_, _, _, rfl, ⟨ht.row, ht.le, ht.max, fun hp => by obtain ⟨g, e1, e2, e3⟩ := ht.own hp; exact ⟨g, e1, Nat.le_trans hb0.size e2, e3⟩⟩⟩, hHeld⟩
      · have GLE : ∀ _ : Unit, ¬ (n : Int) < 2147483648 := fun _ => by omega
        show Calls _ _ _ _ (RefTo w (Option.map (fun n : Nat => bytesL (n : Int) 4) (if n ≤ 2147483648 - 1 then some n else none)))
        rw [if_neg hle]
        show Calls _ _ _ _ (RefTo w none)
        clear hle nm
        go_enter Tryz.func34, Tryz.ntmps34
        go_wp2_with fail
        refine (hS _).mono ?_
        rintro e w ⟨rfl, rfl⟩
        go_wp2_with fail
        refine (hKd _).mono ?_
        rintro e w ⟨rfl, rfl⟩
        go_wp2_with fail
        refine (hM _).mono ?_
        rintro e w ⟨rfl, rfl⟩
        go_wp2_with fail
        refine (hN _).mono ?_
        rintro e w ⟨rfl, rfl⟩
        go_wp2_with fail
        have gle := GLE ()
        refine wp_region_held_drew (S := fun x => Below w.heap.size w x) (by kernel_rfl) (Below.drew (Below.refl _ _)) (fun hHeld => ?_)
        refine tk 0 (.int .u64 (n : Int)) rfl (.inl ⟨by rfl, ?_⟩) ?_
        · intro _ h; (try dsimp only at h); go_simp <;> first | decide | assumption
        try simp only [Act.put, gA, gS, gZ, sA, sZ, sS]
        refine tk 1 (.int .i64 4) rfl (.inl ⟨by rfl, ?_⟩) ?_
        · intro _ h; (try dsimp only at h); go_simp <;> first | decide | assumption
        try simp only [Act.put, gA, gS, gZ, sA, sZ, sS]
        refine tk 3 (.bool true) rfl (.inl ⟨by rfl, ?_⟩) ?_
        · intro _ h; (try dsimp only at h); go_simp <;> first | decide | assumption
        try simp only [Act.put, gA, gS, gZ, sA, sZ, sS]
        refine wpAnyH_ready (rs := [2]) (by kernel_rfl) (by simp) ?_
        refine AllReadyH.cons rfl (fun K' hK => ?_) AllReadyH.nil
        rw [if_pos (by rfl)]
        simp only [List.getElem_toArray, List.getElem_cons_succ, List.getElem_cons_zero]
        go_wp2_with fail
        refine (bytesD_any ((n : Int)) 4 _ (by decide)).mono ?_
        rintro e z ⟨⟨ba, bc, rfl, ht⟩, hbx⟩
        try go_wp2_with fail
        refine hK.out _ _ (Below.andThen hHeld hbx) (fun hHeld => ?_)
        clear hK K'
        try simp only [Act.put, gA, gS, gZ, sA, sZ, sS]
        refine tk 4 (.bool true) rfl (.inl ⟨by rfl, ?_⟩) ?_
        · intro _ h; (try dsimp only at h); go_simp <;> first | decide | assumption
        try simp only [Act.put, gA, gS, gZ, sA, sZ, sS]
        refine tk 5 (.int .u64 (n : Int)) rfl (.inl ⟨by rfl, ?_⟩) ?_
        · intro _ h; (try dsimp only at h); go_simp <;> first | decide | assumption
        try simp only [Act.put, gA, gS, gZ, sA, sZ, sS]
        refine tk 6 (.int .i64 32) rfl (.inl ⟨by rfl, ?_⟩) ?_
        · intro _ h; (try dsimp only at h); go_simp <;> first | decide | assumption
        try simp only [Act.put, gA, gS, gZ, sA, sZ, sS]
        refine tk 7 (.int .i64 31) rfl (.inl ⟨by rfl, ?_⟩) ?_
        · intro _ h; (try dsimp only at h); go_simp <;> first | decide | assumption
        try simp only [Act.put, gA, gS, gZ, sA, sZ, sS]
        refine tk 8 (.int .u64 2147483648) rfl (.inl ⟨by rfl, ?_⟩) ?_
        · intro _ h; (try dsimp only at h); go_simp <;> first | decide | assumption
        try simp only [Act.put, gA, gS, gZ, sA, sZ, sS]
        refine tk 9 (.bool false) rfl (.inl ⟨by rfl, ?_⟩) ?_
        · intro _ h; (try dsimp only at h); go_simp <;> first | decide | assumption
        try simp only [Act.put, gA, gS, gZ, sA, sZ, sS]
        refine tk 10 (.bool false) rfl (.inl ⟨by rfl, ?_⟩) ?_
        · intro _ h; (try dsimp only at h); go_simp <;> first | decide | assumption
        try simp only [Act.put, gA, gS, gZ, sA, sZ, sS]
        refine tk 11 (.slice ba 4 bc) rfl (.inl ⟨by rfl, ?_⟩) ?_
        · intro _ h; (try dsimp only at h); go_simp <;> first | decide | assumption
        try simp only [Act.put, gA, gS, gZ, sA, sZ, sS]
        refine tk 12 (.bool false) rfl (.inl ⟨by rfl, ?_⟩) ?_
        · intro _ h; (try dsimp only at h); go_simp <;> first | decide | assumption
        try simp only [Act.put, gA, gS, gZ, sA, sZ, sS]
        refine wpAnyH_done (by kernel_rfl) ?_ _
        go_wp2_with fail
        go_ret2
        exact ⟨⟨_, rfl⟩, hHeld⟩

set_option linter.unusedSimpArgs false in
set_option maxHeartbeats 4000000 in
set_option maxRecDepth 100000 in
theorem wholeI8 (t : Int) (l : List UInt8) (w : World) (hk : kindN t = 2) (hs : sizeN t = 8) (hl : l.length ≤ 1000000) :
    Calls Tryz.prog 34 #[.int .u8 t, .string (str l)] w (RefTo w (intV t l)) := by
  have hlt : letN t = 105 := by unfold letN; rw [hk]; rfl
  have hS := fun w => refSize_any t w
  have hKd := fun w => refKind_any t w
  rw [hs] at hS
  rw [hlt] at hKd
  have hM := fun w => minusD_any l w
  have IV : intV t l = (sgnV 9223372036854775808 (9223372036854775808 - 1) l).map fun n : Nat => bytesL (n : Int) 8 := sgn_int t l 8 hs hk
  rw [IV]
  unfold sgnV
  unfold minT at hM
  by_cases hh : l.head? = some 45
  · rw [if_pos hh, decV_most 9223372036854775808 (by decide)]
    rw [if_pos hh] at hM
    have hN := fun w => refNumberD_any l.tail w (by rw [List.length_tail]; omega)
    have DM := fun n h => decV_max l.tail n h
    clear IV hh hlt
    generalize str l = sl at *
    generalize str l.tail = st at *
    generalize decV 18446744073709551615 l.tail = v at *
    cases v with
    | none =>
      replace hN : ∀ w : World, Calls Tryz.prog 37 #[.string st] w fun e w' => e = .returned (.tuple #[.int .u64 0, .bool false]) ∧ w' = w := hN
      show Calls _ _ _ _ (RefTo w none)
      clear DM
      go_enter Tryz.func34, Tryz.ntmps34
      go_wp2_with fail
      refine (hS _).mono ?_
      rintro e w ⟨rfl, rfl⟩
      go_wp2_with fail
      refine (hKd _).mono ?_
      rintro e w ⟨rfl, rfl⟩
      go_wp2_with fail
      refine (hM _).mono ?_
      rintro e w ⟨rfl, rfl⟩
      go_wp2_with fail
      refine (hN _).mono ?_
      rintro e w ⟨rfl, rfl⟩
      go_wp2_with fail
      refine wp_region_held_drew (S := fun x => Below w.heap.size w x) (by kernel_rfl) (Below.drew (Below.refl _ _)) (fun hHeld => ?_)
      refine tk 0 (.int .u64 0) rfl (.inl ⟨by rfl, ?_⟩) ?_
      · intro _ h; (try dsimp only at h); go_simp <;> first | decide | assumption
      try simp only [Act.put, gA, gS, gZ, sA, sZ, sS]
      refine tk 1 (.int .u64 0) rfl (.inl ⟨by rfl, ?_⟩) ?_
      · intro _ h; (try dsimp only at h); go_simp <;> first | decide | assumption
      try simp only [Act.put, gA, gS, gZ, sA, sZ, sS]
      refine tk 2 (.int .i64 8) rfl (.inl ⟨by rfl, ?_⟩) ?_
      · intro _ h; (try dsimp only at h); go_simp <;> first | decide | assumption
      try simp only [Act.put, gA, gS, gZ, sA, sZ, sS]
      refine tk 4 (.bool false) rfl (.inl ⟨by rfl, ?_⟩) ?_
      · intro _ h; (try dsimp only at h); go_simp <;> first | decide | assumption
      try simp only [Act.put, gA, gS, gZ, sA, sZ, sS]
      refine wpAnyH_ready (rs := [3]) (by kernel_rfl) (by simp) ?_
      refine AllReadyH.cons rfl (fun K' hK => ?_) AllReadyH.nil
      rw [if_pos (by rfl)]
      simp only [List.getElem_toArray, List.getElem_cons_succ, List.getElem_cons_zero]
      go_wp2_with fail
      refine (bytesD_any (0) 8 _ (by decide)).mono ?_
      rintro e z ⟨⟨ba, bc, rfl, ht⟩, hbx⟩
      try go_wp2_with fail
      refine hK.out _ _ (Below.andThen hHeld hbx) (fun hHeld => ?_)
      clear hK K'
      try simp only [Act.put, gA, gS, gZ, sA, sZ, sS]
      refine tk 5 (.bool false) rfl (.inl ⟨by rfl, ?_⟩) ?_
      · intro _ h; (try dsimp only at h); go_simp <;> first | decide | assumption
      try simp only [Act.put, gA, gS, gZ, sA, sZ, sS]
      refine tk 6 undef rfl (.inr ⟨by rfl, rfl⟩) ?_
      try simp only [Act.put, gA, gS, gZ, sA, sZ, sS]
      refine tk 7 undef rfl (.inr ⟨by rfl, rfl⟩) ?_
      try simp only [Act.put, gA, gS, gZ, sA, sZ, sS]
      refine tk 8 (.bool false) rfl (.inl ⟨by rfl, ?_⟩) ?_
      · intro _ h; (try dsimp only at h); go_simp <;> first | decide | assumption
      try simp only [Act.put, gA, gS, gZ, sA, sZ, sS]
      refine tk 9 (.bool false) rfl (.inl ⟨by rfl, ?_⟩) ?_
      · intro _ h; (try dsimp only at h); go_simp <;> first | decide | assumption
      try simp only [Act.put, gA, gS, gZ, sA, sZ, sS]
      refine tk 10 undef rfl (.inr ⟨by rfl, rfl⟩) ?_
      try simp only [Act.put, gA, gS, gZ, sA, sZ, sS]
      refine tk 11 undef rfl (.inr ⟨by rfl, rfl⟩) ?_
      try simp only [Act.put, gA, gS, gZ, sA, sZ, sS]
      refine tk 12 undef rfl (.inr ⟨by rfl, rfl⟩) ?_
      try simp only [Act.put, gA, gS, gZ, sA, sZ, sS]
      refine tk 13 undef rfl (.inr ⟨by rfl, rfl⟩) ?_
      try simp only [Act.put, gA, gS, gZ, sA, sZ, sS]
      refine tk 14 undef rfl (.inr ⟨by rfl, rfl⟩) ?_
      try simp only [Act.put, gA, gS, gZ, sA, sZ, sS]
      refine tk 15 (.bool false) rfl (.inl ⟨by rfl, ?_⟩) ?_
      · intro _ h; (try dsimp only at h); go_simp <;> first | decide | assumption
      try simp only [Act.put, gA, gS, gZ, sA, sZ, sS]
      refine tk 16 (.slice ba 8 bc) rfl (.inl ⟨by rfl, ?_⟩) ?_
      · intro _ h; (try dsimp only at h); go_simp <;> first | decide | assumption
      try simp only [Act.put, gA, gS, gZ, sA, sZ, sS]
      refine tk 17 (.bool false) rfl (.inl ⟨by rfl, ?_⟩) ?_
      · intro _ h; (try dsimp only at h); go_simp <;> first | decide | assumption
      try simp only [Act.put, gA, gS, gZ, sA, sZ, sS]
      refine wpAnyH_done (by kernel_rfl) ?_ _
      go_wp2_with fail
      go_ret2
      exact ⟨⟨_, rfl⟩, hHeld⟩
    | some n =>
      replace hN : ∀ w : World, Calls Tryz.prog 37 #[.string st] w fun e w' => e = .returned (.tuple #[.int .u64 (n : Int), .bool true]) ∧ w' = w := hN
      have nm := DM n rfl
      clear DM
      by_cases h0 : n = 0
      · subst h0
        show Calls _ _ _ _ (RefTo w none)
        go_enter Tryz.func34, Tryz.ntmps34
        go_wp2_with fail
        refine (hS _).mono ?_
        rintro e w ⟨rfl, rfl⟩
        go_wp2_with fail
        refine (hKd _).mono ?_
        rintro e w ⟨rfl, rfl⟩
        go_wp2_with fail
        refine (hM _).mono ?_
        rintro e w ⟨rfl, rfl⟩
        go_wp2_with fail
        refine (hN _).mono ?_
        rintro e w ⟨rfl, rfl⟩
        go_wp2_with fail
        refine wp_region_held_drew (S := fun x => Below w.heap.size w x) (by kernel_rfl) (Below.drew (Below.refl _ _)) (fun hHeld => ?_)
        refine tk 0 (.int .u64 0) rfl (.inl ⟨by rfl, ?_⟩) ?_
        · intro _ h; (try dsimp only at h); go_simp <;> first | decide | assumption
        try simp only [Act.put, gA, gS, gZ, sA, sZ, sS]
        refine tk 1 (.int .u64 0) rfl (.inl ⟨by rfl, ?_⟩) ?_
        · intro _ h; (try dsimp only at h); go_simp <;> first | decide | assumption
        try simp only [Act.put, gA, gS, gZ, sA, sZ, sS]
        refine tk 2 (.int .i64 8) rfl (.inl ⟨by rfl, ?_⟩) ?_
        · intro _ h; (try dsimp only at h); go_simp <;> first | decide | assumption
        try simp only [Act.put, gA, gS, gZ, sA, sZ, sS]
        refine tk 4 (.bool true) rfl (.inl ⟨by rfl, ?_⟩) ?_
        · intro _ h; (try dsimp only at h); go_simp <;> first | decide | assumption
        try simp only [Act.put, gA, gS, gZ, sA, sZ, sS]
        refine wpAnyH_ready (rs := [3]) (by kernel_rfl) (by simp) ?_
        refine AllReadyH.cons rfl (fun K' hK => ?_) AllReadyH.nil
        rw [if_pos (by rfl)]
        simp only [List.getElem_toArray, List.getElem_cons_succ, List.getElem_cons_zero]
        go_wp2_with fail
        refine (bytesD_any (0) 8 _ (by decide)).mono ?_
        rintro e z ⟨⟨ba, bc, rfl, ht⟩, hbx⟩
        try go_wp2_with fail
        refine hK.out _ _ (Below.andThen hHeld hbx) (fun hHeld => ?_)
        clear hK K'
        try simp only [Act.put, gA, gS, gZ, sA, sZ, sS]
        refine tk 5 (.bool true) rfl (.inl ⟨by rfl, ?_⟩) ?_
        · intro _ h; (try dsimp only at h); go_simp <;> first | decide | assumption
        try simp only [Act.put, gA, gS, gZ, sA, sZ, sS]
        refine tk 6 (.int .u64 0) rfl (.inl ⟨by rfl, ?_⟩) ?_
        · intro _ h; (try dsimp only at h); go_simp <;> first | decide | assumption
        try simp only [Act.put, gA, gS, gZ, sA, sZ, sS]
        refine tk 7 (.bool false) rfl (.inl ⟨by rfl, ?_⟩) ?_
        · intro _ h; (try dsimp only at h); go_simp <;> first | decide | assumption
        try simp only [Act.put, gA, gS, gZ, sA, sZ, sS]
        refine tk 8 (.bool false) rfl (.inl ⟨by rfl, ?_⟩) ?_
        · intro _ h; (try dsimp only at h); go_simp <;> first | decide | assumption
        try simp only [Act.put, gA, gS, gZ, sA, sZ, sS]
        refine tk 9 (.bool false) rfl (.inl ⟨by rfl, ?_⟩) ?_
        · intro _ h; (try dsimp only at h); go_simp <;> first | decide | assumption
        try simp only [Act.put, gA, gS, gZ, sA, sZ, sS]
        refine tk 10 undef rfl (.inr ⟨by rfl, rfl⟩) ?_
        try simp only [Act.put, gA, gS, gZ, sA, sZ, sS]
        refine tk 11 undef rfl (.inr ⟨by rfl, rfl⟩) ?_
        try simp only [Act.put, gA, gS, gZ, sA, sZ, sS]
        refine tk 12 undef rfl (.inr ⟨by rfl, rfl⟩) ?_
        try simp only [Act.put, gA, gS, gZ, sA, sZ, sS]
        refine tk 13 undef rfl (.inr ⟨by rfl, rfl⟩) ?_
        try simp only [Act.put, gA, gS, gZ, sA, sZ, sS]
        refine tk 14 undef rfl (.inr ⟨by rfl, rfl⟩) ?_
        try simp only [Act.put, gA, gS, gZ, sA, sZ, sS]
        refine tk 15 (.bool false) rfl (.inl ⟨by rfl, ?_⟩) ?_
        · intro _ h; (try dsimp only at h); go_simp <;> first | decide | assumption
        try simp only [Act.put, gA, gS, gZ, sA, sZ, sS]
        refine tk 16 (.slice ba 8 bc) rfl (.inl ⟨by rfl, ?_⟩) ?_
        · intro _ h; (try dsimp only at h); go_simp <;> first | decide | assumption
        try simp only [Act.put, gA, gS, gZ, sA, sZ, sS]
        refine tk 17 (.bool false) rfl (.inl ⟨by rfl, ?_⟩) ?_
        · intro _ h; (try dsimp only at h); go_simp <;> first | decide | assumption
        try simp only [Act.put, gA, gS, gZ, sA, sZ, sS]
        refine wpAnyH_done (by kernel_rfl) ?_ _
        go_wp2_with fail
        go_ret2
        exact ⟨⟨_, rfl⟩, hHeld⟩
      have g0 : (0 : Int) < (n : Int) := by omega
      have g0n : 0 < n := by omega
      have wq : IntKind.u64.wrap (-(n : Int)) = ((18446744073709551616 - n : Nat) : Int) := by rw [IntKind.wrap_u64]; omega
      have wq' : IntKind.u64.wrap (0 - (n : Int)) = ((18446744073709551616 - n : Nat) : Int) := by rw [IntKind.wrap_u64]; omega
      by_cases hle : n ≤ 9223372036854775808
      · have GLE : ∀ _ : Unit, (n : Int) ≤ 9223372036854775808 := fun _ => by omega
        show Calls _ _ _ _ (RefTo w (Option.map (fun n : Nat => bytesL (n : Int) 8) (Option.bind (if n ≤ 9223372036854775808 then some n else none) fun n => if n = 0 then none else some (18446744073709551616 - n))))
        rw [if_pos hle]
        show Calls _ _ _ _ (RefTo w (Option.map (fun n : Nat => bytesL (n : Int) 8) (if n = 0 then none else some (18446744073709551616 - n))))
        rw [if_neg h0]
        show Calls _ _ _ _ (RefTo w (some (bytesL ((18446744073709551616 - n : Nat) : Int) 8)))
        clear hle h0 nm
        generalize 18446744073709551616 - n = q at *
        obtain ⟨R, HR⟩ : ∃ R, Hid (some (bytesL (q : Int) 8) = R) := ⟨_, rfl⟩
        rw [HR.out]
        go_enter Tryz.func34, Tryz.ntmps34
        go_wp2_with fail
        refine (hS _).mono ?_
        rintro e w ⟨rfl, rfl⟩
        go_wp2_with fail
        refine (hKd _).mono ?_
        rintro e w ⟨rfl, rfl⟩
        go_wp2_with fail
        refine (hM _).mono ?_
        rintro e w ⟨rfl, rfl⟩
        go_wp2_with fail
        refine (hN _).mono ?_
        rintro e w ⟨rfl, rfl⟩
        go_wp2_with fail
        have gle := GLE ()
        refine wp_region_held_drew (S := fun x => Below w.heap.size w x) (by kernel_rfl) (Below.drew (Below.refl _ _)) (fun hHeld => ?_)
        refine tk 0 (.int .u64 (n : Int)) rfl (.inl ⟨by rfl, ?_⟩) ?_
        · intro _ h; (try dsimp only at h); go_simp <;> first | decide | assumption
        try simp only [Act.put, gA, gS, gZ, sA, sZ, sS]
        refine tk 1 (.int .u64 (q : Int)) rfl (.inl ⟨by rfl, ?_⟩) ?_
        · intro _ h; (try dsimp only at h); go_simp <;> first | decide | assumption
        try simp only [Act.put, gA, gS, gZ, sA, sZ, sS]
        refine tk 2 (.int .i64 8) rfl (.inl ⟨by rfl, ?_⟩) ?_
        · intro _ h; (try dsimp only at h); go_simp <;> first | decide | assumption
        try simp only [Act.put, gA, gS, gZ, sA, sZ, sS]
        refine tk 4 (.bool true) rfl (.inl ⟨by rfl, ?_⟩) ?_
        · intro _ h; (try dsimp only at h); go_simp <;> first | decide | assumption
        try simp only [Act.put, gA, gS, gZ, sA, sZ, sS]
        refine wpAnyH_ready (rs := [3]) (by kernel_rfl) (by simp) ?_
        refine AllReadyH.cons rfl (fun K' hK => ?_) AllReadyH.nil
        rw [if_pos (by rfl)]
        simp only [List.getElem_toArray, List.getElem_cons_succ, List.getElem_cons_zero]
        go_wp2_with fail
        refine (bytesD_any ((q : Int)) 8 _ (by decide)).mono ?_
        rintro e z ⟨⟨ba, bc, rfl, ht⟩, hbx⟩
        try go_wp2_with fail
        have hb0 := hHeld
        refine hK.out _ _ (Below.andThen hHeld hbx) (fun hHeld => ?_)
        clear hK K'
        try simp only [Act.put, gA, gS, gZ, sA, sZ, sS]
        refine tk 5 (.bool true) rfl (.inl ⟨by rfl, ?_⟩) ?_
        · intro _ h; (try dsimp only at h); go_simp <;> first | decide | assumption
        try simp only [Act.put, gA, gS, gZ, sA, sZ, sS]
        refine tk 6 (.int .u64 (n : Int)) rfl (.inl ⟨by rfl, ?_⟩) ?_
        · intro _ h; (try dsimp only at h); go_simp <;> first | decide | assumption
        try simp only [Act.put, gA, gS, gZ, sA, sZ, sS]
        refine tk 7 (.bool true) rfl (.inl ⟨by rfl, ?_⟩) ?_
        · intro _ h; (try dsimp only at h); go_simp <;> first | decide | assumption
        try simp only [Act.put, gA, gS, gZ, sA, sZ, sS]
        refine tk 8 (.bool true) rfl (.inl ⟨by rfl, ?_⟩) ?_
        · intro _ h; (try dsimp only at h); go_simp <;> first | decide | assumption
        try simp only [Act.put, gA, gS, gZ, sA, sZ, sS]
        refine tk 9 (.bool true) rfl (.inl ⟨by rfl, ?_⟩) ?_
        · intro _ h; (try dsimp only at h); go_simp <;> first | decide | assumption
        try simp only [Act.put, gA, gS, gZ, sA, sZ, sS]
        refine tk 10 (.int .u64 (n : Int)) rfl (.inl ⟨by rfl, ?_⟩) ?_
        · intro _ h; (try dsimp only at h); go_simp <;> first | decide | assumption
        try simp only [Act.put, gA, gS, gZ, sA, sZ, sS]
        refine tk 11 (.int .i64 64) rfl (.inl ⟨by rfl, ?_⟩) ?_
        · intro _ h; (try dsimp only at h); go_simp <;> first | decide | assumption
        try simp only [Act.put, gA, gS, gZ, sA, sZ, sS]
        refine tk 12 (.int .i64 63) rfl (.inl ⟨by rfl, ?_⟩) ?_
        · intro _ h; (try dsimp only at h); go_simp <;> first | decide | assumption
        try simp only [Act.put, gA, gS, gZ, sA, sZ, sS]
        refine tk 13 (.int .u64 9223372036854775808) rfl (.inl ⟨by rfl, ?_⟩) ?_
        · intro _ h; (try dsimp only at h); go_simp <;> first | decide | assumption
        try simp only [Act.put, gA, gS, gZ, sA, sZ, sS]
        refine tk 14 (.bool true) rfl (.inl ⟨by rfl, ?_⟩) ?_
        · intro _ h; (try dsimp only at h); go_simp <;> first | decide | assumption
        try simp only [Act.put, gA, gS, gZ, sA, sZ, sS]
        refine tk 15 (.bool true) rfl (.inl ⟨by rfl, ?_⟩) ?_
        · intro _ h; (try dsimp only at h); go_simp <;> first | decide | assumption
        try simp only [Act.put, gA, gS, gZ, sA, sZ, sS]
        refine tk 16 (.slice ba 8 bc) rfl (.inl ⟨by rfl, ?_⟩) ?_
        · intro _ h; (try dsimp only at h); go_simp <;> first | decide | assumption
        try simp only [Act.put, gA, gS, gZ, sA, sZ, sS]
        refine tk 17 (.bool true) rfl (.inl ⟨by rfl, ?_⟩) ?_
        · intro _ h; (try dsimp only at h); go_simp <;> first | decide | assumption
        try simp only [Act.put, gA, gS, gZ, sA, sZ, sS]
        refine wpAnyH_done (by kernel_rfl) ?_ _
        go_wp2_with fail
        go_ret2
        rw [← HR.out]
        exact ⟨⟨_, _, _, rfl, ⟨ht.row, ht.le, ht.max, fun hp => by obtain ⟨g, e1, e2, e3⟩ := ht.own hp; exact ⟨g, e1, Nat.le_trans hb0.size e2, e3⟩⟩⟩, hHeld⟩
      · have GLE : ∀ _ : Unit, ¬ (n : Int) ≤ 9223372036854775808 := fun _ => by omega
        show Calls _ _ _ _ (RefTo w (Option.map (fun n : Nat => bytesL (n : Int) 8) (Option.bind (if n ≤ 9223372036854775808 then some n else none) fun n => if n = 0 then none else some (18446744073709551616 - n))))
        rw [if_neg hle]
        show Calls _ _ _ _ (RefTo w none)
        clear hle h0 nm
        generalize 18446744073709551616 - n = q at *
        go_enter Tryz.func34, Tryz.ntmps34
        go_wp2_with fail
        refine (hS _).mono ?_
        rintro e w ⟨rfl, rfl⟩
        go_wp2_with fail
        refine (hKd _).mono ?_
        rintro e w ⟨rfl, rfl⟩
        go_wp2_with fail
        refine (hM _).mono ?_
        rintro e w ⟨rfl, rfl⟩
        go_wp2_with fail
        refine (hN _).mono ?_
        rintro e w ⟨rfl, rfl⟩
        go_wp2_with fail
        have gle := GLE ()
        refine wp_region_held_drew (S := fun x => Below w.heap.size w x) (by kernel_rfl) (Below.drew (Below.refl _ _)) (fun hHeld => ?_)
        refine tk 0 (.int .u64 (n : Int)) rfl (.inl ⟨by rfl, ?_⟩) ?_
        · intro _ h; (try dsimp only at h); go_simp <;> first | decide | assumption
        try simp only [Act.put, gA, gS, gZ, sA, sZ, sS]
        refine tk 1 (.int .u64 (q : Int)) rfl (.inl ⟨by rfl, ?_⟩) ?_
        · intro _ h; (try dsimp only at h); go_simp <;> first | decide | assumption
        try simp only [Act.put, gA, gS, gZ, sA, sZ, sS]
        refine tk 2 (.int .i64 8) rfl (.inl ⟨by rfl, ?_⟩) ?_
        · intro _ h; (try dsimp only at h); go_simp <;> first | decide | assumption
        try simp only [Act.put, gA, gS, gZ, sA, sZ, sS]
        refine tk 4 (.bool true) rfl (.inl ⟨by rfl, ?_⟩) ?_
        · intro _ h; (try dsimp only at h); go_simp <;> first | decide | assumption
        try simp only [Act.put, gA, gS, gZ, sA, sZ, sS]
        refine wpAnyH_ready (rs := [3]) (by kernel_rfl) (by simp) ?_
        refine AllReadyH.cons rfl (fun K' hK => ?_) AllReadyH.nil
        rw [if_pos (by rfl)]
        simp only [List.getElem_toArray, List.getElem_cons_succ, List.getElem_cons_zero]
        go_wp2_with fail
        refine (bytesD_any ((q : Int)) 8 _ (by decide)).mono ?_
        rintro e z ⟨⟨ba, bc, rfl, ht⟩, hbx⟩
        try go_wp2_with fail
        refine hK.out _ _ (Below.andThen hHeld hbx) (fun hHeld => ?_)
        clear hK K'
        try simp only [Act.put, gA, gS, gZ, sA, sZ, sS]
        refine tk 5 (.bool true) rfl (.inl ⟨by rfl, ?_⟩) ?_
        · intro _ h; (try dsimp only at h); go_simp <;> first | decide | assumption
        try simp only [Act.put, gA, gS, gZ, sA, sZ, sS]
        refine tk 6 (.int .u64 (n : Int)) rfl (.inl ⟨by rfl, ?_⟩) ?_
        · intro _ h; (try dsimp only at h); go_simp <;> first | decide | assumption
        try simp only [Act.put, gA, gS, gZ, sA, sZ, sS]
        refine tk 7 (.bool true) rfl (.inl ⟨by rfl, ?_⟩) ?_
        · intro _ h; (try dsimp only at h); go_simp <;> first | decide | assumption
        try simp only [Act.put, gA, gS, gZ, sA, sZ, sS]
        refine tk 8 (.bool true) rfl (.inl ⟨by rfl, ?_⟩) ?_
        · intro _ h; (try dsimp only at h); go_simp <;> first | decide | assumption
        try simp only [Act.put, gA, gS, gZ, sA, sZ, sS]
        refine tk 9 (.bool true) rfl (.inl ⟨by rfl, ?_⟩) ?_
        · intro _ h; (try dsimp only at h); go_simp <;> first | decide | assumption
        try simp only [Act.put, gA, gS, gZ, sA, sZ, sS]
        refine tk 10 (.int .u64 (n : Int)) rfl (.inl ⟨by rfl, ?_⟩) ?_
        · intro _ h; (try dsimp only at h); go_simp <;> first | decide | assumption
        try simp only [Act.put, gA, gS, gZ, sA, sZ, sS]
        refine tk 11 (.int .i64 64) rfl (.inl ⟨by rfl, ?_⟩) ?_
        · intro _ h; (try dsimp only at h); go_simp <;> first | decide | assumption
        try simp only [Act.put, gA, gS, gZ, sA, sZ, sS]
        refine tk 12 (.int .i64 63) rfl (.inl ⟨by rfl, ?_⟩) ?_
        · intro _ h; (try dsimp only at h); go_simp <;> first | decide | assumption
        try simp only [Act.put, gA, gS, gZ, sA, sZ, sS]
        refine tk 13 (.int .u64 9223372036854775808) rfl (.inl ⟨by rfl, ?_⟩) ?_
        · intro _ h; (try dsimp only at h); go_simp <;> first | decide | assumption
        try simp only [Act.put, gA, gS, gZ, sA, sZ, sS]
        refine tk 14 (.bool false) rfl (.inl ⟨by rfl, ?_⟩) ?_
        · intro _ h; (try dsimp only at h); go_simp <;> first | decide | assumption
        try simp only [Act.put, gA, gS, gZ, sA, sZ, sS]
        refine tk 15 (.bool false) rfl (.inl ⟨by rfl, ?_⟩) ?_
        · intro _ h; (try dsimp only at h); go_simp <;> first | decide | assumption
        try simp only [Act.put, gA, gS, gZ, sA, sZ, sS]
        refine tk 16 (.slice ba 8 bc) rfl (.inl ⟨by rfl, ?_⟩) ?_
        · intro _ h; (try dsimp only at h); go_simp <;> first | decide | assumption
        try simp only [Act.put, gA, gS, gZ, sA, sZ, sS]
        refine tk 17 (.bool false) rfl (.inl ⟨by rfl, ?_⟩) ?_
        · intro _ h; (try dsimp only at h); go_simp <;> first | decide | assumption
        try simp only [Act.put, gA, gS, gZ, sA, sZ, sS]
        refine wpAnyH_done (by kernel_rfl) ?_ _
        go_wp2_with fail
        go_ret2
        exact ⟨⟨_, rfl⟩, hHeld⟩
  · rw [if_neg hh, decV_most (9223372036854775808 - 1) (by decide)]
    rw [if_neg hh] at hM
    have hN := fun w => refNumberD_any l w hl
    have DM := fun n h => decV_max l n h
    clear IV hh hlt
    generalize str l = sl at *
    generalize decV 18446744073709551615 l = v at *
    cases v with
    | none =>
      replace hN : ∀ w : World, Calls Tryz.prog 37 #[.string sl] w fun e w' => e = .returned (.tuple #[.int .u64 0, .bool false]) ∧ w' = w := hN
      show Calls _ _ _ _ (RefTo w none)
      clear DM
      go_enter Tryz.func34, Tryz.ntmps34
      go_wp2_with fail
      refine (hS _).mono ?_
      rintro e w ⟨rfl, rfl⟩
      go_wp2_with fail
      refine (hKd _).mono ?_
      rintro e w ⟨rfl, rfl⟩
      go_wp2_with fail
      refine (hM _).mono ?_
      rintro e w ⟨rfl, rfl⟩
      go_wp2_with fail
      refine (hN _).mono ?_
      rintro e w ⟨rfl, rfl⟩
      go_wp2_with fail
      refine wp_region_held_drew (S := fun x => Below w.heap.size w x) (by kernel_rfl) (Below.drew (Below.refl _ _)) (fun hHeld => ?_)
      refine tk 0 (.int .u64 0) rfl (.inl ⟨by rfl, ?_⟩) ?_
      · intro _ h; (try dsimp only at h); go_simp <;> first | decide | assumption
      try simp only [Act.put, gA, gS, gZ, sA, sZ, sS]
      refine tk 1 (.int .i64 8) rfl (.inl ⟨by rfl, ?_⟩) ?_
      · intro _ h; (try dsimp only at h); go_simp <;> first | decide | assumption
      try simp only [Act.put, gA, gS, gZ, sA, sZ, sS]
      refine tk 3 (.bool false) rfl (.inl ⟨by rfl, ?_⟩) ?_
      · intro _ h; (try dsimp only at h); go_simp <;> first | decide | assumption
      try simp only [Act.put, gA, gS, gZ, sA, sZ, sS]
      refine wpAnyH_ready (rs := [2]) (by kernel_rfl) (by simp) ?_
      refine AllReadyH.cons rfl (fun K' hK => ?_) AllReadyH.nil
      rw [if_pos (by rfl)]
      simp only [List.getElem_toArray, List.getElem_cons_succ, List.getElem_cons_zero]
      go_wp2_with fail
      refine (bytesD_any (0) 8 _ (by decide)).mono ?_
      rintro e z ⟨⟨ba, bc, rfl, ht⟩, hbx⟩
      try go_wp2_with fail
      refine hK.out _ _ (Below.andThen hHeld hbx) (fun hHeld => ?_)
      clear hK K'
      try simp only [Act.put, gA, gS, gZ, sA, sZ, sS]
      refine tk 4 (.bool false) rfl (.inl ⟨by rfl, ?_⟩) ?_
      · intro _ h; (try dsimp only at h); go_simp <;> first | decide | assumption
      try simp only [Act.put, gA, gS, gZ, sA, sZ, sS]
      refine tk 5 undef rfl (.inr ⟨by rfl, rfl⟩) ?_
      try simp only [Act.put, gA, gS, gZ, sA, sZ, sS]
      refine tk 6 undef rfl (.inr ⟨by rfl, rfl⟩) ?_
      try simp only [Act.put, gA, gS, gZ, sA, sZ, sS]
      refine tk 7 undef rfl (.inr ⟨by rfl, rfl⟩) ?_
      try simp only [Act.put, gA, gS, gZ, sA, sZ, sS]
      refine tk 8 undef rfl (.inr ⟨by rfl, rfl⟩) ?_
      try simp only [Act.put, gA, gS, gZ, sA, sZ, sS]
      refine tk 9 undef rfl (.inr ⟨by rfl, rfl⟩) ?_
      try simp only [Act.put, gA, gS, gZ, sA, sZ, sS]
      refine tk 10 (.bool false) rfl (.inl ⟨by rfl, ?_⟩) ?_
      · intro _ h; (try dsimp only at h); go_simp <;> first | decide | assumption
      try simp only [Act.put, gA, gS, gZ, sA, sZ, sS]
      refine tk 11 (.slice ba 8 bc) rfl (.inl ⟨by rfl, ?_⟩) ?_
      · intro _ h; (try dsimp only at h); go_simp <;> first | decide | assumption
      try simp only [Act.put, gA, gS, gZ, sA, sZ, sS]
      refine tk 12 (.bool false) rfl (.inl ⟨by rfl, ?_⟩) ?_
      · intro _ h; (try dsimp only at h); go_simp <;> first | decide | assumption
      try simp only [Act.put, gA, gS, gZ, sA, sZ, sS]
      refine wpAnyH_done (by kernel_rfl) ?_ _
      go_wp2_with fail
      go_ret2
      exact ⟨⟨_, rfl⟩, hHeld⟩
    | some n =>
      replace hN : ∀ w : World, Calls Tryz.prog 37 #[.string sl] w fun e w' => e = .returned (.tuple #[.int .u64 (n : Int), .bool true]) ∧ w' = w := hN
      have nm := DM n rfl
      clear DM
      by_cases hle : n ≤ 9223372036854775808 - 1
      · have GLE : ∀ _ : Unit, (n : Int) < 9223372036854775808 := fun _ => by omega
        show Calls _ _ _ _ (RefTo w (Option.map (fun n : Nat => bytesL (n : Int) 8) (if n ≤ 9223372036854775808 - 1 then some n else none)))
        rw [if_pos hle]
        show Calls _ _ _ _ (RefTo w (some (bytesL (n : Int) 8)))
        obtain ⟨R, HR⟩ : ∃ R, Hid (some (bytesL (n : Int) 8) = R) := ⟨_, rfl⟩
        rw [HR.out]
        clear hle nm
        go_enter Tryz.func34, Tryz.ntmps34
        go_wp2_with fail
        refine (hS _).mono ?_
        rintro e w ⟨rfl, rfl⟩
        go_wp2_with fail
        refine (hKd _).mono ?_
        rintro e w ⟨rfl, rfl⟩
        go_wp2_with fail
        refine (hM _).mono ?_
        rintro e w ⟨rfl, rfl⟩
        go_wp2_with fail
        refine (hN _).mono ?_
        rintro e w ⟨rfl, rfl⟩
        go_wp2_with fail
        have gle := GLE ()
        refine wp_region_held_drew (S := fun x => Below w.heap.size w x) (by kernel_rfl) (Below.drew (Below.refl _ _)) (fun hHeld => ?_)
        refine tk 0 (.int .u64 (n : Int)) rfl (.inl ⟨by rfl, ?_⟩) ?_
        · intro _ h; (try dsimp only at h); go_simp <;> first | decide | assumption
        try simp only [Act.put, gA, gS, gZ, sA, sZ, sS]
        refine tk 1 (.int .i64 8) rfl (.inl ⟨by rfl, ?_⟩) ?_
        · intro _ h; (try dsimp only at h); go_simp <;> first | decide | assumption
        try simp only [Act.put, gA, gS, gZ, sA, sZ, sS]
        refine tk 3 (.bool true) rfl (.inl ⟨by rfl, ?_⟩) ?_
        · intro _ h; (try dsimp only at h); go_simp <;> first | decide | assumption
        try simp only [Act.put, gA, gS, gZ, sA, sZ, sS]
        refine wpAnyH_ready (rs := [2]) (by kernel_rfl) (by simp) ?_
        refine AllReadyH.cons rfl (fun K' hK => ?_) AllReadyH.nil
        rw [if_pos (by rfl)]
        simp only [List.getElem_toArray, List.getElem_cons_succ, List.getElem_cons_zero]
        go_wp2_with fail
        refine (bytesD_any ((n : Int)) 8 _ (by decide)).mono ?_
        rintro e z ⟨⟨ba, bc, rfl, ht⟩, hbx⟩
        try go_wp2_with fail
        have hb0 := hHeld
        refine hK.out _ _ (Below.andThen hHeld hbx) (fun hHeld => ?_)
        clear hK K'
        try simp only [Act.put, gA, gS, gZ, sA, sZ, sS]
        refine tk 4 (.bool true) rfl (.inl ⟨by rfl, ?_⟩) ?_
        · intro _ h; (try dsimp only at h); go_simp <;> first | decide | assumption
        try simp only [Act.put, gA, gS, gZ, sA, sZ, sS]
        refine tk 5 (.int .u64 (n : Int)) rfl (.inl ⟨by rfl, ?_⟩) ?_
        · intro _ h; (try dsimp only at h); go_simp <;> first | decide | assumption
        try simp only [Act.put, gA, gS, gZ, sA, sZ, sS]
        refine tk 6 (.int .i64 64) rfl (.inl ⟨by rfl, ?_⟩) ?_
        · intro _ h; (try dsimp only at h); go_simp <;> first | decide | assumption
        try simp only [Act.put, gA, gS, gZ, sA, sZ, sS]
        refine tk 7 (.int .i64 63) rfl (.inl ⟨by rfl, ?_⟩) ?_
        · intro _ h; (try dsimp only at h); go_simp <;> first | decide | assumption
        try simp only [Act.put, gA, gS, gZ, sA, sZ, sS]
        refine tk 8 (.int .u64 9223372036854775808) rfl (.inl ⟨by rfl, ?_⟩) ?_
        · intro _ h; (try dsimp only at h); go_simp <;> first | decide | assumption
        try simp only [Act.put, gA, gS, gZ, sA, sZ, sS]
        refine tk 9 (.bool true) rfl (.inl ⟨by rfl, ?_⟩) ?_
        · intro _ h; (try dsimp only at h); go_simp <;> first | decide | assumption
        try simp only [Act.put, gA, gS, gZ, sA, sZ, sS]
        refine tk 10 (.bool true) rfl (.inl ⟨by rfl, ?_⟩) ?_
        · intro _ h; (try dsimp only at h); go_simp <;> first | decide | assumption
        try simp only [Act.put, gA, gS, gZ, sA, sZ, sS]
        refine tk 11 (.slice ba 8 bc) rfl (.inl ⟨by rfl, ?_⟩) ?_
        · intro _ h; (try dsimp only at h); go_simp <;> first | decide | assumption
        try simp only [Act.put, gA, gS, gZ, sA, sZ, sS]
        refine tk 12 (.bool true) rfl (.inl ⟨by rfl, ?_⟩) ?_
        · intro _ h; (try dsimp only at h); go_simp <;> first | decide | assumption
        try simp only [Act.put, gA, gS, gZ, sA, sZ, sS]
        refine wpAnyH_done (by kernel_rfl) ?_ _
        go_wp2_with fail
        go_ret2
        rw [← HR.out]
        exact ⟨⟨_, _, _, rfl, ⟨ht.row, ht.le, ht.max, fun hp => by obtain ⟨g, e1, e2, e3⟩ := ht.own hp; exact ⟨g, e1, Nat.le_trans hb0.size e2, e3⟩⟩⟩, hHeld⟩
      · have GLE : ∀ _ : Unit, ¬ (n : Int) < 9223372036854775808 := fun _ => by omega
        show Calls _ _ _ _ (RefTo w (Option.map (fun n : Nat => bytesL (n : Int) 8) (if n ≤ 9223372036854775808 - 1 then some n else none)))
        rw [if_neg hle]
        show Calls _ _ _ _ (RefTo w none)
        clear hle nm
        go_enter Tryz.func34, Tryz.ntmps34
        go_wp2_with fail
        refine (hS _).mono ?_
        rintro e w ⟨rfl, rfl⟩
        go_wp2_with fail
        refine (hKd _).mono ?_
        rintro e w ⟨rfl, rfl⟩
        go_wp2_with fail
        refine (hM _).mono ?_
        rintro e w ⟨rfl, rfl⟩
        go_wp2_with fail
        refine (hN _).mono ?_
        rintro e w ⟨rfl, rfl⟩
        go_wp2_with fail
        have gle := GLE ()
        refine wp_region_held_drew (S := fun x => Below w.heap.size w x) (by kernel_rfl) (Below.drew (Below.refl _ _)) (fun hHeld => ?_)
        refine tk 0 (.int .u64 (n : Int)) rfl (.inl ⟨by rfl, ?_⟩) ?_
        · intro _ h; (try dsimp only at h); go_simp <;> first | decide | assumption
        try simp only [Act.put, gA, gS, gZ, sA, sZ, sS]
        refine tk 1 (.int .i64 8) rfl (.inl ⟨by rfl, ?_⟩) ?_
        · intro _ h; (try dsimp only at h); go_simp <;> first | decide | assumption
        try simp only [Act.put, gA, gS, gZ, sA, sZ, sS]
        refine tk 3 (.bool true) rfl (.inl ⟨by rfl, ?_⟩) ?_
        · intro _ h; (try dsimp only at h); go_simp <;> first | decide | assumption
        try simp only [Act.put, gA, gS, gZ, sA, sZ, sS]
        refine wpAnyH_ready (rs := [2]) (by kernel_rfl) (by simp) ?_
        refine AllReadyH.cons rfl (fun K' hK => ?_) AllReadyH.nil
        rw [if_pos (by rfl)]
        simp only [List.getElem_toArray, List.getElem_cons_succ, List.getElem_cons_zero]
        go_wp2_with fail
        refine (bytesD_any ((n : Int)) 8 _ (by decide)).mono ?_
        rintro e z ⟨⟨ba, bc, rfl, ht⟩, hbx⟩
        try go_wp2_with fail
        refine hK.out _ _ (Below.andThen hHeld hbx) (fun hHeld => ?_)
        clear hK K'
        try simp only [Act.put, gA, gS, gZ, sA, sZ, sS]
        refine tk 4 (.bool true) rfl (.inl ⟨by rfl, ?_⟩) ?_
        · intro _ h; (try dsimp only at h); go_simp <;> first | decide | assumption
        try simp only [Act.put, gA, gS, gZ, sA, sZ, sS]
        refine tk 5 (.int .u64 (n : Int)) rfl (.inl ⟨by rfl, ?_⟩) ?_
        · intro _ h; (try dsimp only at h); go_simp <;> first | decide | assumption
        try simp only [Act.put, gA, gS, gZ, sA, sZ, sS]
        refine tk 6 (.int .i64 64) rfl (.inl ⟨by rfl, ?_⟩) ?_
        · intro _ h; (try dsimp only at h); go_simp <;> first | decide | assumption
        try simp only [Act.put, gA, gS, gZ, sA, sZ, sS]
        refine tk 7 (.int .i64 63) rfl (.inl ⟨by rfl, ?_⟩) ?_
        · intro _ h; (try dsimp only at h); go_simp <;> first | decide | assumption
        try simp only [Act.put, gA, gS, gZ, sA, sZ, sS]
        refine tk 8 (.int .u64 9223372036854775808) rfl (.inl ⟨by rfl, ?_⟩) ?_
        · intro _ h; (try dsimp only at h); go_simp <;> first | decide | assumption
        try simp only [Act.put, gA, gS, gZ, sA, sZ, sS]
        refine tk 9 (.bool false) rfl (.inl ⟨by rfl, ?_⟩) ?_
        · intro _ h; (try dsimp only at h); go_simp <;> first | decide | assumption
        try simp only [Act.put, gA, gS, gZ, sA, sZ, sS]
        refine tk 10 (.bool false) rfl (.inl ⟨by rfl, ?_⟩) ?_
        · intro _ h; (try dsimp only at h); go_simp <;> first | decide | assumption
        try simp only [Act.put, gA, gS, gZ, sA, sZ, sS]
        refine tk 11 (.slice ba 8 bc) rfl (.inl ⟨by rfl, ?_⟩) ?_
        · intro _ h; (try dsimp only at h); go_simp <;> first | decide | assumption
        try simp only [Act.put, gA, gS, gZ, sA, sZ, sS]
        refine tk 12 (.bool false) rfl (.inl ⟨by rfl, ?_⟩) ?_
        · intro _ h; (try dsimp only at h); go_simp <;> first | decide | assumption
        try simp only [Act.put, gA, gS, gZ, sA, sZ, sS]
        refine wpAnyH_done (by kernel_rfl) ?_ _
        go_wp2_with fail
        go_ret2
        exact ⟨⟨_, rfl⟩, hHeld⟩

theorem wholeD_any (t : Int) (l : List UInt8) (w : World) (hk : kindN t = 2 ∨ kindN t = 3) (hl : l.length ≤ 1000000) :
    Calls Tryz.prog 34 #[.int .u8 t, .string (str l)] w (RefTo w (intV t l)) := by
  rcases hk with hk | hk
  · rcases int_sizes t (.inl hk) with h | h | h | h | h
    · exact wholeI1 t l w hk h hl
    · exact wholeI2 t l w hk h hl
    · exact wholeI3 t l w hk h hl
    · exact wholeI4 t l w hk h hl
    · exact wholeI8 t l w hk h hl
  · rcases int_sizes t (.inr hk) with h | h | h | h | h
    · exact wholeU1 t l w hk h hl
    · exact wholeU2 t l w hk h hl
    · exact wholeU3 t l w hk h hl
    · exact wholeU4 t l w hk h hl
    · exact wholeU8 t l w hk h hl
#print axioms wholeD_any
end Go.Proofs.YtkfmmpolcjbnbaaGreatDoor
