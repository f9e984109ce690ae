/-
  The walk of the document's whole.
-/
import Derived.Test.YtkfmmpolcjbnbaaGreatDoorVn1
import Derived.Test.YtkfmmpolcjbnbaaGreatDoorWhl2
import Derived.Deep.RegionHeld3
namespace Go.Proofs.YtkfmmpolcjbnbaaGreatDoor
open Pl Go.RowKit

/-- What the document's readers tell. -/
def RefTo (w : World) : Option (List Int) → Ending → World → Prop
  | some zs, e, w' => (∃ a len cap, e = .returned (.tuple #[.slice a len cap, .bool true]) ∧ Told w w' a len cap zs) ∧ Below w.heap.size w w'
  | none, e, w' => (∃ v, e = .returned (.tuple #[v, .bool false])) ∧ Below w.heap.size w w'

theorem decFold_most (most : Nat) (hm : most ≤ 18446744073709551615) : ∀ (l : List UInt8) (n : Nat), n ≤ most → decFold most n l = (decFold 18446744073709551615 n l).bind fun m => if m ≤ most then some m else none
  | [], n, h => by simp [decFold, h]
  | c :: l, n, h => by
    simp only [decFold]
    by_cases hd : 48 ≤ c.toNat ∧ c.toNat ≤ 57
    · by_cases h1 : c.toNat - 48 ≤ most ∧ n ≤ (most - (c.toNat - 48)) / 10
      · have e1 : decStep most n c.toNat = some (10 * n + (c.toNat - 48)) := by unfold decStep; rw [if_pos ⟨hd, h1⟩]
        have e2 : decStep 18446744073709551615 n c.toNat = some (10 * n + (c.toNat - 48)) := by unfold decStep; rw [if_pos ⟨hd, by omega, by omega⟩]
        rw [e1, e2]
        exact decFold_most most hm l _ (by omega)
      · have e1 : decStep most n c.toNat = none := by unfold decStep; rw [if_neg (by intro h; exact h1 h.2)]
        rw [e1]
        cases e2 : decStep 18446744073709551615 n c.toNat with
        | none => rfl
        | some q =>
          have hq : most < q := by
            unfold decStep at e2
            split at e2
            · cases e2; omega
            · cases e2
          show none = (decFold 18446744073709551615 q l).bind _
          cases e3 : decFold 18446744073709551615 q l with
          | none => rfl
          | some m =>
            have := decFold_ge _ l q m e3
            have : q ≤ q * 10 ^ l.length := Nat.le_mul_of_pos_right _ (Nat.pow_pos (by decide))
            show none = if m ≤ most then some m else none
            rw [if_neg (by omega)]
    · have e1 : decStep most n c.toNat = none := by unfold decStep; rw [if_neg (by intro h; exact hd h.1)]
      have e2 : decStep 18446744073709551615 n c.toNat = none := by unfold decStep; rw [if_neg (by intro h; exact hd h.1)]
      rw [e1, e2]
      rfl
theorem decV_most (most : Nat) (hm : most ≤ 18446744073709551615) (l : List UInt8) : decV most l = (decV 18446744073709551615 l).bind fun m => if m ≤ most then some m else none := by
  unfold decV
  split
  · exact decFold_most most hm l 0 (Nat.zero_le _)
  · rfl
theorem decV_max (l : List UInt8) (n : Nat) (h : decV 18446744073709551615 l = some n) : n < 18446744073709551616 := by
  unfold decV at h
  split at h
  · have := decFold_le _ _ 0 n (Nat.zero_le _) h; omega
  · cases h
theorem hexV_max (l : List UInt8) (n : Nat) (h : hexV l = some n) : n < 18446744073709551616 := by
  unfold hexV at h
  split at h
  · cases h
  · next hc =>
    have := hexF_lt true l 0 n h
    have h2 : 16 ^ l.length ≤ 16 ^ 16 := Nat.pow_le_pow_right (by decide) (by omega)
    have : (16 : Nat) ^ 16 = 18446744073709551616 := rfl
    omega

/-- The number without a sign that the document reads, whatever the size. -/
def anyU (l : List UInt8) : Option Nat := if Lib.hasPrefix l [48, 120] = true ∧ 2 < l.length then hexV (l.drop 2) else decV 18446744073709551615 l
theorem unsV_any (most : Nat) (hm : most ≤ 18446744073709551615) (l : List UInt8) : unsV most l = (anyU l).bind fun n => if n ≤ most then some n else none := by
  unfold unsV anyU
  by_cases hp : Lib.hasPrefix l [48, 120] = true
  · have ht : Lib.trimPrefix l [48, 120] = l.drop 2 := by unfold Lib.trimPrefix; rw [if_pos hp]; rfl
    rw [if_pos hp, ht]
    by_cases hl : 2 < l.length
    · rw [if_pos (show Lib.hasPrefix l [48, 120] = true ∧ 2 < l.length from ⟨hp, hl⟩)]
      unfold hexV
      have hd : (l.drop 2).length = l.length - 2 := List.length_drop
      have hne : l.drop 2 ≠ [] := fun h => by rw [h] at hd; simp at hd; omega
      by_cases h16 : 16 < (l.drop 2).length
      · rw [if_neg (show ¬ (1 ≤ (l.drop 2).length ∧ (l.drop 2).length ≤ 16) by omega), if_pos (show l.drop 2 = [] ∨ 16 < (l.drop 2).length from .inr h16)]; rfl
      · rw [if_pos (show 1 ≤ (l.drop 2).length ∧ (l.drop 2).length ≤ 16 by omega), if_neg (show ¬ (l.drop 2 = [] ∨ 16 < (l.drop 2).length) by rintro (h | h); exact hne h; exact h16 h)]
    · rw [if_neg (show ¬ (Lib.hasPrefix l [48, 120] = true ∧ 2 < l.length) by intro h; exact hl h.2), if_neg (show ¬ (1 ≤ (l.drop 2).length ∧ (l.drop 2).length ≤ 16) by rw [List.length_drop]; omega)]
      have : decV 18446744073709551615 l = none := decV_bad _ l (by
        have h2 : [48, 120] <+: l := by simpa [Lib.hasPrefix] using hp
        obtain ⟨t, rfl⟩ := h2
        simp)
      rw [this]; rfl
  · rw [if_neg hp, if_neg (show ¬ (Lib.hasPrefix l [48, 120] = true ∧ 2 < l.length) by intro h; exact hp h.1), decV_most most hm]
theorem anyU_max (l : List UInt8) (n : Nat) (h : anyU l = some n) : n < 18446744073709551616 := by
  unfold anyU at h
  split at h
  · exact hexV_max _ n h
  · exact decV_max _ n h
theorem pfx2 (l : List UInt8) (h : 2 < l.length) : Lib.hasPrefix l [48, 120] = (l.take 2 == [48, 120]) := by
  match l, h with
  | a :: b :: c :: r, _ =>
    unfold Lib.hasPrefix
    rw [Bool.eq_iff_iff]
    simp [List.isPrefixOf]
    constructor
    · rintro ⟨h1, h2⟩; exact ⟨h1.symm, h2.symm⟩
    · rintro ⟨h1, h2⟩; exact ⟨h1.symm, h2.symm⟩

set_option linter.unusedSimpArgs false in
set_option maxHeartbeats 4000000 in
set_option maxRecDepth 100000 in
theorem wholeU1 (t : Int) (l : List UInt8) (w : World) (hk : kindN t = 3) (hs : sizeN t = 1) (hl : l.length ≤ 1000000) :
    Calls Tryz.prog 34 #[.int .u8 t, .string (str l)] w (RefTo w (intV t l)) := by
  have hlt : letN t = 117 := by unfold letN; rw [hk]; rfl
  have hS := fun w => refSize_any t w
  have hK := fun w => refKind_any t w
  rw [hs] at hS
  rw [hlt] at hK
  have hN := fun w => refNumberD_any l w hl
  have hH := fun w => hexD_any (l.drop 2) w
  have IV : Hid (intV t l = ((anyU l).bind fun n => if n ≤ 255 then some n else none).map fun n : Nat => bytesL (n : Int) 1) := by
    show _ = _
    rw [uns_int t l 1 hs hk]
    rw [show (2 ^ (8 * 1) - 1 : Nat) = 255 from rfl, unsV_any 255 (by decide) l]
    generalize ((anyU l).bind fun n => if n ≤ 255 then some n else none) = o
    cases o <;> rfl
  have SF := slice_from l 2
  have ST : 2 ≤ l.length → ∀ w : World, (Instr.slice 9 (.string (str l)) none (some (.int .i64 2)) none).run Tryz.prog w = .ok (.string (str (l.take 2))) w := fun hk w => by
    have hs : (str l).size = l.length := by unfold str; simp [ByteArray.size]
    rw [run_slice_string_h (P := Tryz.prog) w 9 (str l) Tryz.underlying9 .i64 _ (by omega) (by rw [hs]; omega)]
    congr 2
    apply ByteArray.ext
    simp [str, ByteArray.data_extract]
  obtain ⟨s, HSL, htl, hsz, _⟩ := str_facts l
  rw [HSL.out] at hN SF ST ⊢
  rw [IV.out]
  have AM := fun n h => anyU_max l n h
  by_cases hx : Lib.hasPrefix l [48, 120] = true ∧ 2 < l.length
  · have hA : anyU l = hexV (l.drop 2) := by unfold anyU; rw [if_pos hx]
    rw [hA] at AM ⊢
    have g2 : (2 : Int) < (l.length : Int) := by omega
    have sf := SF (by omega)
    have st := ST (by omega)
    have t2 : l.take 2 = [48, 120] := by have := hx.1; rw [pfx2 l hx.2] at this; simpa using this
    rw [t2] at st
    have st' : ∀ w : World, (Instr.slice 9 (.string s) none (some (.int .i64 2)) none).run Tryz.prog w = .ok (.string ⟨#[48, 120]⟩) w := st
    have sf' : ∀ w : World, (Instr.slice 9 (.string s) (some (.int .i64 2)) none none).run Tryz.prog w = .ok (.string (str (l.drop 2))) w := sf
    clear SF ST st sf t2 hA hx IV
    generalize str (l.drop 2) = sx at *
    generalize hexV (l.drop 2) = v at *
    generalize decV 18446744073709551615 l = v0 at *
    obtain ⟨n0, b0, HN⟩ : ∃ (n0 : Int) (b0 : Bool), Hid (∀ w : World, Calls Tryz.prog 37 #[.string s] w fun e w' => e = .returned (.tuple #[.int .u64 n0, .bool b0]) ∧ w' = w) := by cases v0 with | none => exact ⟨_, _, hN⟩ | some m => exact ⟨_, _, hN⟩
    clear hN
    cases v with
    | none =>
      replace hH : (∀ w : World, Calls Tryz.prog 40 #[.string sx] w fun e w' => e = .returned (.tuple #[.int .u64 0, .bool false]) ∧ w' = w) := hH
      show Calls _ _ _ _ (RefTo w none)
      clear AM
      go_enter Tryz.func34, Tryz.ntmps34
      go_wp2_with fail
      refine (hS _).mono ?_
      rintro e w ⟨rfl, rfl⟩
      go_wp2_with fail
      refine (hK _).mono ?_
      rintro e w ⟨rfl, rfl⟩
      go_wp2_with fail
      refine (HN.out _).mono ?_
      rintro e w ⟨rfl, rfl⟩
      go_wp2_with fail
      refine (hH _).mono ?_
      rintro e w ⟨rfl, rfl⟩
      go_wp2_with fail
      refine wp_region_held_drew (S := fun x => Below w.heap.size w x) (by kernel_rfl) (Below.drew (Below.refl _ _)) (fun hHeld => ?_)
      refine tk 0 (.int .u64 0) rfl (.inl ⟨by rfl, ?_⟩) ?_
      · intro _ h; (try dsimp only at h); go_simp <;> first | decide | assumption
      try simp only [Act.put, gA, gS, gZ, sA, sZ, sS]
      refine tk 1 (.int .i64 1) rfl (.inl ⟨by rfl, ?_⟩) ?_
      · intro _ h; (try dsimp only at h); go_simp <;> first | decide | assumption
      try simp only [Act.put, gA, gS, gZ, sA, sZ, sS]
      refine tk 3 (.bool false) rfl (.inl ⟨by rfl, ?_⟩) ?_
      · intro _ h; (try dsimp only at h); go_simp <;> first | decide | assumption
      try simp only [Act.put, gA, gS, gZ, sA, sZ, sS]
      refine wpAnyH_ready (rs := [2]) (by kernel_rfl) (by simp) ?_
      refine AllReadyH.cons rfl (fun K' hK => ?_) AllReadyH.nil
      rw [if_pos (by rfl)]
      simp only [List.getElem_toArray, List.getElem_cons_succ, List.getElem_cons_zero]
      go_wp2_with fail
      refine (bytesD_any 0 1 _ (by decide)).mono ?_
      rintro e z ⟨⟨ba, bc, rfl, ht⟩, hbx⟩
      try go_wp2_with fail
      refine hK.out _ _ (Below.andThen hHeld hbx) (fun hHeld => ?_)
      clear hK K'
      try simp only [Act.put, gA, gS, gZ, sA, sZ, sS]
      refine tk 4 (.bool false) rfl (.inl ⟨by rfl, ?_⟩) ?_
      · intro _ h; (try dsimp only at h); go_simp <;> first | decide | assumption
      try simp only [Act.put, gA, gS, gZ, sA, sZ, sS]
      refine tk 5 undef rfl (.inr ⟨by rfl, rfl⟩) ?_
      try simp only [Act.put, gA, gS, gZ, sA, sZ, sS]
      refine tk 6 undef rfl (.inr ⟨by rfl, rfl⟩) ?_
      try simp only [Act.put, gA, gS, gZ, sA, sZ, sS]
      refine tk 7 undef rfl (.inr ⟨by rfl, rfl⟩) ?_
      try simp only [Act.put, gA, gS, gZ, sA, sZ, sS]
      refine tk 8 undef rfl (.inr ⟨by rfl, rfl⟩) ?_
      try simp only [Act.put, gA, gS, gZ, sA, sZ, sS]
      refine tk 9 undef rfl (.inr ⟨by rfl, rfl⟩) ?_
      try simp only [Act.put, gA, gS, gZ, sA, sZ, sS]
      refine tk 10 undef rfl (.inr ⟨by rfl, rfl⟩) ?_
      try simp only [Act.put, gA, gS, gZ, sA, sZ, sS]
      refine tk 11 undef rfl (.inr ⟨by rfl, rfl⟩) ?_
      try simp only [Act.put, gA, gS, gZ, sA, sZ, sS]
      refine tk 12 undef rfl (.inr ⟨by rfl, rfl⟩) ?_
      try simp only [Act.put, gA, gS, gZ, sA, sZ, sS]
      refine tk 13 (.bool false) rfl (.inl ⟨by rfl, ?_⟩) ?_
      · intro _ h; (try dsimp only at h); go_simp <;> first | decide | assumption
      try simp only [Act.put, gA, gS, gZ, sA, sZ, sS]
      refine tk 14 (.slice ba 1 bc) rfl (.inl ⟨by rfl, ?_⟩) ?_
      · intro _ h; (try dsimp only at h); go_simp <;> first | decide | assumption
      try simp only [Act.put, gA, gS, gZ, sA, sZ, sS]
      refine tk 15 (.bool false) rfl (.inl ⟨by rfl, ?_⟩) ?_
      · intro _ h; (try dsimp only at h); go_simp <;> first | decide | assumption
      try simp only [Act.put, gA, gS, gZ, sA, sZ, sS]
      refine wpAnyH_done (by kernel_rfl) ?_ _
      go_wp2_with fail
      go_ret2
      exact ⟨⟨_, rfl⟩, hHeld⟩
    | some n =>
      replace hH : (∀ w : World, Calls Tryz.prog 40 #[.string sx] w fun e w' => e = .returned (.tuple #[.int .u64 (n : Int), .bool true]) ∧ w' = w) := hH
      have nm := AM n rfl
      clear AM
      by_cases hle : n ≤ 255
      · show Calls _ _ _ _ (RefTo w (Option.map (fun n : Nat => bytesL (n : Int) 1) (if n ≤ 255 then some n else none)))
        rw [if_pos hle]
        obtain ⟨R, HR⟩ : ∃ R, Hid (some (bytesL (n : Int) 1) = R) := ⟨_, rfl⟩
        show Calls _ _ _ _ (RefTo w (some (bytesL (n : Int) 1)))
        rw [HR.out]
        have GLE : ∀ _ : Unit, (n : Int) < 256 := fun _ => by omega
        clear hle nm
        go_enter Tryz.func34, Tryz.ntmps34
        go_wp2_with fail
        refine (hS _).mono ?_
        rintro e w ⟨rfl, rfl⟩
        go_wp2_with fail
        refine (hK _).mono ?_
        rintro e w ⟨rfl, rfl⟩
        go_wp2_with fail
        refine (HN.out _).mono ?_
        rintro e w ⟨rfl, rfl⟩
        go_wp2_with fail
        refine (hH _).mono ?_
        rintro e w ⟨rfl, rfl⟩
        go_wp2_with fail
        have gle := GLE ()
        refine wp_region_held_drew (S := fun x => Below w.heap.size w x) (by kernel_rfl) (Below.drew (Below.refl _ _)) (fun hHeld => ?_)
        refine tk 0 (.int .u64 (n : Int)) rfl (.inl ⟨by rfl, ?_⟩) ?_
        · intro _ h; (try dsimp only at h); go_simp <;> first | decide | assumption
        try simp only [Act.put, gA, gS, gZ, sA, sZ, sS]
        refine tk 1 (.int .i64 1) rfl (.inl ⟨by rfl, ?_⟩) ?_
        · intro _ h; (try dsimp only at h); go_simp <;> first | decide | assumption
        try simp only [Act.put, gA, gS, gZ, sA, sZ, sS]
        refine tk 3 (.bool true) rfl (.inl ⟨by rfl, ?_⟩) ?_
        · intro _ h; (try dsimp only at h); go_simp <;> first | decide | assumption
        try simp only [Act.put, gA, gS, gZ, sA, sZ, sS]
        refine wpAnyH_ready (rs := [2]) (by kernel_rfl) (by simp) ?_
        refine AllReadyH.cons rfl (fun K' hK => ?_) AllReadyH.nil
        rw [if_pos (by rfl)]
        simp only [List.getElem_toArray, List.getElem_cons_succ, List.getElem_cons_zero]
        go_wp2_with fail
        refine (bytesD_any (n : Int) 1 _ (by decide)).mono ?_
        rintro e z ⟨⟨ba, bc, rfl, ht⟩, hbx⟩
        try go_wp2_with fail
        have hb0 := hHeld
        refine hK.out _ _ (Below.andThen hHeld hbx) (fun hHeld => ?_)
        clear hK K'
        try simp only [Act.put, gA, gS, gZ, sA, sZ, sS]
        refine tk 4 (.bool true) rfl (.inl ⟨by rfl, ?_⟩) ?_
        · intro _ h; (try dsimp only at h); go_simp <;> first | decide | assumption
        try simp only [Act.put, gA, gS, gZ, sA, sZ, sS]
        refine tk 5 (.int .i64 8) rfl (.inl ⟨by rfl, ?_⟩) ?_
        · intro _ h; (try dsimp only at h); go_simp <;> first | decide | assumption
        try simp only [Act.put, gA, gS, gZ, sA, sZ, sS]
        refine tk 6 (.bool false) rfl (.inl ⟨by rfl, ?_⟩) ?_
        · intro _ h; (try dsimp only at h); go_simp <;> first | decide | assumption
        try simp only [Act.put, gA, gS, gZ, sA, sZ, sS]
        refine tk 7 (.bool false) rfl (.inl ⟨by rfl, ?_⟩) ?_
        · intro _ h; (try dsimp only at h); go_simp <;> first | decide | assumption
        try simp only [Act.put, gA, gS, gZ, sA, sZ, sS]
        refine tk 8 (.int .u64 (n : Int)) rfl (.inl ⟨by rfl, ?_⟩) ?_
        · intro _ h; (try dsimp only at h); go_simp <;> first | decide | assumption
        try simp only [Act.put, gA, gS, gZ, sA, sZ, sS]
        refine tk 9 (.int .i64 8) rfl (.inl ⟨by rfl, ?_⟩) ?_
        · intro _ h; (try dsimp only at h); go_simp <;> first | decide | assumption
        try simp only [Act.put, gA, gS, gZ, sA, sZ, sS]
        refine tk 10 (.int .u64 256) rfl (.inl ⟨by rfl, ?_⟩) ?_
        · intro _ h; (try dsimp only at h); go_simp <;> first | decide | assumption
        try simp only [Act.put, gA, gS, gZ, sA, sZ, sS]
        refine tk 11 (.bool true) rfl (.inl ⟨by rfl, ?_⟩) ?_
        · intro _ h; (try dsimp only at h); go_simp <;> first | decide | assumption
        try simp only [Act.put, gA, gS, gZ, sA, sZ, sS]
        refine tk 12 (.bool true) rfl (.inl ⟨by rfl, ?_⟩) ?_
        · intro _ h; (try dsimp only at h); go_simp <;> first | decide | assumption
        try simp only [Act.put, gA, gS, gZ, sA, sZ, sS]
        refine tk 13 (.bool true) rfl (.inl ⟨by rfl, ?_⟩) ?_
        · intro _ h; (try dsimp only at h); go_simp <;> first | decide | assumption
        try simp only [Act.put, gA, gS, gZ, sA, sZ, sS]
        refine tk 14 (.slice ba 1 bc) rfl (.inl ⟨by rfl, ?_⟩) ?_
        · intro _ h; (try dsimp only at h); go_simp <;> first | decide | assumption
        try simp only [Act.put, gA, gS, gZ, sA, sZ, sS]
        refine tk 15 (.bool true) rfl (.inl ⟨by rfl, ?_⟩) ?_
        · intro _ h; (try dsimp only at h); go_simp <;> first | decide | assumption
        try simp only [Act.put, gA, gS, gZ, sA, sZ, sS]
        refine wpAnyH_done (by kernel_rfl) ?_ _
        go_wp2_with fail
        go_ret2
        rw [← HR.out]
        exact ⟨⟨_, _, _, rfl, ⟨ht.row, ht.le, ht.max, fun hp => by obtain ⟨g, e1, e2, e3⟩ := ht.own hp; exact ⟨g, e1, Nat.le_trans hb0.size e2, e3⟩⟩⟩, hHeld⟩
      · show Calls _ _ _ _ (RefTo w (Option.map (fun n : Nat => bytesL (n : Int) 1) (if n ≤ 255 then some n else none)))
        rw [if_neg hle]
        show Calls _ _ _ _ (RefTo w none)
        have GLE : ∀ _ : Unit, ¬ (n : Int) < 256 := fun _ => by omega
        clear hle nm
        go_enter Tryz.func34, Tryz.ntmps34
        go_wp2_with fail
        refine (hS _).mono ?_
        rintro e w ⟨rfl, rfl⟩
        go_wp2_with fail
        refine (hK _).mono ?_
        rintro e w ⟨rfl, rfl⟩
        go_wp2_with fail
        refine (HN.out _).mono ?_
        rintro e w ⟨rfl, rfl⟩
        go_wp2_with fail
        refine (hH _).mono ?_
        rintro e w ⟨rfl, rfl⟩
        go_wp2_with fail
        have gle := GLE ()
        refine wp_region_held_drew (S := fun x => Below w.heap.size w x) (by kernel_rfl) (Below.drew (Below.refl _ _)) (fun hHeld => ?_)
        refine tk 0 (.int .u64 (n : Int)) rfl (.inl ⟨by rfl, ?_⟩) ?_
        · intro _ h; (try dsimp only at h); go_simp <;> first | decide | assumption
        try simp only [Act.put, gA, gS, gZ, sA, sZ, sS]
        refine tk 1 (.int .i64 1) rfl (.inl ⟨by rfl, ?_⟩) ?_
        · intro _ h; (try dsimp only at h); go_simp <;> first | decide | assumption
        try simp only [Act.put, gA, gS, gZ, sA, sZ, sS]
        refine tk 3 (.bool true) rfl (.inl ⟨by rfl, ?_⟩) ?_
        · intro _ h; (try dsimp only at h); go_simp <;> first | decide | assumption
        try simp only [Act.put, gA, gS, gZ, sA, sZ, sS]
        refine wpAnyH_ready (rs := [2]) (by kernel_rfl) (by simp) ?_
        refine AllReadyH.cons rfl (fun K' hK => ?_) AllReadyH.nil
        rw [if_pos (by rfl)]
        simp only [List.getElem_toArray, List.getElem_cons_succ, List.getElem_cons_zero]
        go_wp2_with fail
        refine (bytesD_any (n : Int) 1 _ (by decide)).mono ?_
        rintro e z ⟨⟨ba, bc, rfl, ht⟩, hbx⟩
        try go_wp2_with fail
        refine hK.out _ _ (Below.andThen hHeld hbx) (fun hHeld => ?_)
        clear hK K'
        try simp only [Act.put, gA, gS, gZ, sA, sZ, sS]
        refine tk 4 (.bool true) rfl (.inl ⟨by rfl, ?_⟩) ?_
        · intro _ h; (try dsimp only at h); go_simp <;> first | decide | assumption
        try simp only [Act.put, gA, gS, gZ, sA, sZ, sS]
        refine tk 5 (.int .i64 8) rfl (.inl ⟨by rfl, ?_⟩) ?_
        · intro _ h; (try dsimp only at h); go_simp <;> first | decide | assumption
        try simp only [Act.put, gA, gS, gZ, sA, sZ, sS]
        refine tk 6 (.bool false) rfl (.inl ⟨by rfl, ?_⟩) ?_
        · intro _ h; (try dsimp only at h); go_simp <;> first | decide | assumption
        try simp only [Act.put, gA, gS, gZ, sA, sZ, sS]
        refine tk 7 (.bool false) rfl (.inl ⟨by rfl, ?_⟩) ?_
        · intro _ h; (try dsimp only at h); go_simp <;> first | decide | assumption
        try simp only [Act.put, gA, gS, gZ, sA, sZ, sS]
        refine tk 8 (.int .u64 (n : Int)) rfl (.inl ⟨by rfl, ?_⟩) ?_
        · intro _ h; (try dsimp only at h); go_simp <;> first | decide | assumption
        try simp only [Act.put, gA, gS, gZ, sA, sZ, sS]
        refine tk 9 (.int .i64 8) rfl (.inl ⟨by rfl, ?_⟩) ?_
        · intro _ h; (try dsimp only at h); go_simp <;> first | decide | assumption
        try simp only [Act.put, gA, gS, gZ, sA, sZ, sS]
        refine tk 10 (.int .u64 256) rfl (.inl ⟨by rfl, ?_⟩) ?_
        · intro _ h; (try dsimp only at h); go_simp <;> first | decide | assumption
        try simp only [Act.put, gA, gS, gZ, sA, sZ, sS]
        refine tk 11 (.bool false) rfl (.inl ⟨by rfl, ?_⟩) ?_
        · intro _ h; (try dsimp only at h); go_simp <;> first | decide | assumption
        try simp only [Act.put, gA, gS, gZ, sA, sZ, sS]
        refine tk 12 (.bool false) rfl (.inl ⟨by rfl, ?_⟩) ?_
        · intro _ h; (try dsimp only at h); go_simp <;> first | decide | assumption
        try simp only [Act.put, gA, gS, gZ, sA, sZ, sS]
        refine tk 13 (.bool false) rfl (.inl ⟨by rfl, ?_⟩) ?_
        · intro _ h; (try dsimp only at h); go_simp <;> first | decide | assumption
        try simp only [Act.put, gA, gS, gZ, sA, sZ, sS]
        refine tk 14 (.slice ba 1 bc) rfl (.inl ⟨by rfl, ?_⟩) ?_
        · intro _ h; (try dsimp only at h); go_simp <;> first | decide | assumption
        try simp only [Act.put, gA, gS, gZ, sA, sZ, sS]
        refine tk 15 (.bool false) rfl (.inl ⟨by rfl, ?_⟩) ?_
        · intro _ h; (try dsimp only at h); go_simp <;> first | decide | assumption
        try simp only [Act.put, gA, gS, gZ, sA, sZ, sS]
        refine wpAnyH_done (by kernel_rfl) ?_ _
        go_wp2_with fail
        go_ret2
        exact ⟨⟨_, rfl⟩, hHeld⟩
  · have hA : anyU l = decV 18446744073709551615 l := by unfold anyU; rw [if_neg hx]
    rw [hA] at AM ⊢
    have ways : (¬ (2 : Int) < (l.length : Int)) ∨ ((2 : Int) < (l.length : Int) ∧ ∃ q : ByteArray, (∀ w : World, (Instr.slice 9 (.string s) none (some (.int .i64 2)) none).run Tryz.prog w = .ok (.string q) w) ∧ (q.toList == [48, 120]) = false) := by
      by_cases h2 : 2 < l.length
      · refine .inr ⟨by omega, str (l.take 2), ST (by omega), ?_⟩
        rw [show (str (l.take 2)).toList = l.take 2 from by rw [Lib.toList_data]; rfl, ← pfx2 l h2]
        have : ¬ Lib.hasPrefix l [48, 120] = true := fun h => hx ⟨h, h2⟩
        simpa using this
      · exact .inl (by omega)
    clear SF ST hA hx hH IV
    generalize decV 18446744073709551615 l = v at *
    rcases ways with g2 | ⟨g2, q, st, nq⟩
    · cases v with
      | none =>
        replace hN : (∀ w : World, Calls Tryz.prog 37 #[.string s] w fun e w' => e = .returned (.tuple #[.int .u64 0, .bool false]) ∧ w' = w) := hN
        have HN : Hid _ := hN
        clear hN
        show Calls _ _ _ _ (RefTo w none)
        clear AM
        go_enter Tryz.func34, Tryz.ntmps34
        go_wp2_with fail
        refine (hS _).mono ?_
        rintro e w ⟨rfl, rfl⟩
        go_wp2_with fail
        refine (hK _).mono ?_
        rintro e w ⟨rfl, rfl⟩
        go_wp2_with fail
        refine (HN.out _).mono ?_
        rintro e w ⟨rfl, rfl⟩
        go_wp2_with fail
        refine wp_region_held_drew (S := fun x => Below w.heap.size w x) (by kernel_rfl) (Below.drew (Below.refl _ _)) (fun hHeld => ?_)
        refine tk 0 (.int .u64 0) rfl (.inl ⟨by rfl, ?_⟩) ?_
        · intro _ h; (try dsimp only at h); go_simp <;> first | decide | assumption
        try simp only [Act.put, gA, gS, gZ, sA, sZ, sS]
        refine tk 1 (.int .i64 1) rfl (.inl ⟨by rfl, ?_⟩) ?_
        · intro _ h; (try dsimp only at h); go_simp <;> first | decide | assumption
        try simp only [Act.put, gA, gS, gZ, sA, sZ, sS]
        refine tk 3 (.bool false) rfl (.inl ⟨by rfl, ?_⟩) ?_
        · intro _ h; (try dsimp only at h); go_simp <;> first | decide | assumption
        try simp only [Act.put, gA, gS, gZ, sA, sZ, sS]
        refine wpAnyH_ready (rs := [2]) (by kernel_rfl) (by simp) ?_
        refine AllReadyH.cons rfl (fun K' hK => ?_) AllReadyH.nil
        rw [if_pos (by rfl)]
        simp only [List.getElem_toArray, List.getElem_cons_succ, List.getElem_cons_zero]
        go_wp2_with fail
        refine (bytesD_any 0 1 _ (by decide)).mono ?_
        rintro e z ⟨⟨ba, bc, rfl, ht⟩, hbx⟩
        try go_wp2_with fail
        refine hK.out _ _ (Below.andThen hHeld hbx) (fun hHeld => ?_)
        clear hK K'
        try simp only [Act.put, gA, gS, gZ, sA, sZ, sS]
        refine tk 4 (.bool false) rfl (.inl ⟨by rfl, ?_⟩) ?_
        · intro _ h; (try dsimp only at h); go_simp <;> first | decide | assumption
        try simp only [Act.put, gA, gS, gZ, sA, sZ, sS]
        refine tk 5 undef rfl (.inr ⟨by rfl, rfl⟩) ?_
        try simp only [Act.put, gA, gS, gZ, sA, sZ, sS]
        refine tk 6 undef rfl (.inr ⟨by rfl, rfl⟩) ?_
        try simp only [Act.put, gA, gS, gZ, sA, sZ, sS]
        refine tk 7 undef rfl (.inr ⟨by rfl, rfl⟩) ?_
        try simp only [Act.put, gA, gS, gZ, sA, sZ, sS]
        refine tk 8 undef rfl (.inr ⟨by rfl, rfl⟩) ?_
        try simp only [Act.put, gA, gS, gZ, sA, sZ, sS]
        refine tk 9 undef rfl (.inr ⟨by rfl, rfl⟩) ?_
        try simp only [Act.put, gA, gS, gZ, sA, sZ, sS]
        refine tk 10 undef rfl (.inr ⟨by rfl, rfl⟩) ?_
        try simp only [Act.put, gA, gS, gZ, sA, sZ, sS]
        refine tk 11 undef rfl (.inr ⟨by rfl, rfl⟩) ?_
        try simp only [Act.put, gA, gS, gZ, sA, sZ, sS]
        refine tk 12 undef rfl (.inr ⟨by rfl, rfl⟩) ?_
        try simp only [Act.put, gA, gS, gZ, sA, sZ, sS]
        refine tk 13 (.bool false) rfl (.inl ⟨by rfl, ?_⟩) ?_
        · intro _ h; (try dsimp only at h); go_simp <;> first | decide | assumption
        try simp only [Act.put, gA, gS, gZ, sA, sZ, sS]
        refine tk 14 (.slice ba 1 bc) rfl (.inl ⟨by rfl, ?_⟩) ?_
        · intro _ h; (try dsimp only at h); go_simp <;> first | decide | assumption
        try simp only [Act.put, gA, gS, gZ, sA, sZ, sS]
        refine tk 15 (.bool false) rfl (.inl ⟨by rfl, ?_⟩) ?_
        · intro _ h; (try dsimp only at h); go_simp <;> first | decide | assumption
        try simp only [Act.put, gA, gS, gZ, sA, sZ, sS]
        refine wpAnyH_done (by kernel_rfl) ?_ _
        go_wp2_with fail
        go_ret2
        exact ⟨⟨_, rfl⟩, hHeld⟩
      | some n =>
        replace hN : (∀ w : World, Calls Tryz.prog 37 #[.string s] w fun e w' => e = .returned (.tuple #[.int .u64 (n : Int), .bool true]) ∧ w' = w) := hN
        have HN : Hid _ := hN
        clear hN
        have nm := AM n rfl
        clear AM
        by_cases hle : n ≤ 255
        · show Calls _ _ _ _ (RefTo w (Option.map (fun n : Nat => bytesL (n : Int) 1) (if n ≤ 255 then some n else none)))
          rw [if_pos hle]
          obtain ⟨R, HR⟩ : ∃ R, Hid (some (bytesL (n : Int) 1) = R) := ⟨_, rfl⟩
          show Calls _ _ _ _ (RefTo w (some (bytesL (n : Int) 1)))
          rw [HR.out]
          have GLE : ∀ _ : Unit, (n : Int) < 256 := fun _ => by omega
          clear hle nm
          go_enter Tryz.func34, Tryz.ntmps34
          go_wp2_with fail
          refine (hS _).mono ?_
          rintro e w ⟨rfl, rfl⟩
          go_wp2_with fail
          refine (hK _).mono ?_
          rintro e w ⟨rfl, rfl⟩
          go_wp2_with fail
          refine (HN.out _).mono ?_
          rintro e w ⟨rfl, rfl⟩
          go_wp2_with fail
          have gle := GLE ()
          refine wp_region_held_drew (S := fun x => Below w.heap.size w x) (by kernel_rfl) (Below.drew (Below.refl _ _)) (fun hHeld => ?_)
          refine tk 0 (.int .u64 (n : Int)) rfl (.inl ⟨by rfl, ?_⟩) ?_
          · intro _ h; (try dsimp only at h); go_simp <;> first | decide | assumption
          try simp only [Act.put, gA, gS, gZ, sA, sZ, sS]
          refine tk 1 (.int .i64 1) rfl (.inl ⟨by rfl, ?_⟩) ?_
          · intro _ h; (try dsimp only at h); go_simp <;> first | decide | assumption
          try simp only [Act.put, gA, gS, gZ, sA, sZ, sS]
          refine tk 3 (.bool true) rfl (.inl ⟨by rfl, ?_⟩) ?_
          · intro _ h; (try dsimp only at h); go_simp <;> first | decide | assumption
          try simp only [Act.put, gA, gS, gZ, sA, sZ, sS]
          refine wpAnyH_ready (rs := [2]) (by kernel_rfl) (by simp) ?_
          refine AllReadyH.cons rfl (fun K' hK => ?_) AllReadyH.nil
          rw [if_pos (by rfl)]
          simp only [List.getElem_toArray, List.getElem_cons_succ, List.getElem_cons_zero]
          go_wp2_with fail
          refine (bytesD_any (n : Int) 1 _ (by decide)).mono ?_
          rintro e z ⟨⟨ba, bc, rfl, ht⟩, hbx⟩
          try go_wp2_with fail
          have hb0 := hHeld
          refine hK.out _ _ (Below.andThen hHeld hbx) (fun hHeld => ?_)
          clear hK K'
          try simp only [Act.put, gA, gS, gZ, sA, sZ, sS]
          refine tk 4 (.bool true) rfl (.inl ⟨by rfl, ?_⟩) ?_
          · intro _ h; (try dsimp only at h); go_simp <;> first | decide | assumption
          try simp only [Act.put, gA, gS, gZ, sA, sZ, sS]
          refine tk 5 (.int .i64 8) rfl (.inl ⟨by rfl, ?_⟩) ?_
          · intro _ h; (try dsimp only at h); go_simp <;> first | decide | assumption
          try simp only [Act.put, gA, gS, gZ, sA, sZ, sS]
          refine tk 6 (.bool false) rfl (.inl ⟨by rfl, ?_⟩) ?_
          · intro _ h; (try dsimp only at h); go_simp <;> first | decide | assumption
          try simp only [Act.put, gA, gS, gZ, sA, sZ, sS]
          refine tk 7 (.bool false) rfl (.inl ⟨by rfl, ?_⟩) ?_
          · intro _ h; (try dsimp only at h); go_simp <;> first | decide | assumption
          try simp only [Act.put, gA, gS, gZ, sA, sZ, sS]
          refine tk 8 (.int .u64 (n : Int)) rfl (.inl ⟨by rfl, ?_⟩) ?_
          · intro _ h; (try dsimp only at h); go_simp <;> first | decide | assumption
          try simp only [Act.put, gA, gS, gZ, sA, sZ, sS]
          refine tk 9 (.int .i64 8) rfl (.inl ⟨by rfl, ?_⟩) ?_
          · intro _ h; (try dsimp only at h); go_simp <;> first | decide | assumption
          try simp only [Act.put, gA, gS, gZ, sA, sZ, sS]
          refine tk 10 (.int .u64 256) rfl (.inl ⟨by rfl, ?_⟩) ?_
          · intro _ h; (try dsimp only at h); go_simp <;> first | decide | assumption
          try simp only [Act.put, gA, gS, gZ, sA, sZ, sS]
          refine tk 11 (.bool true) rfl (.inl ⟨by rfl, ?_⟩) ?_
          · intro _ h; (try dsimp only at h); go_simp <;> first | decide | assumption
          try simp only [Act.put, gA, gS, gZ, sA, sZ, sS]
          refine tk 12 (.bool true) rfl (.inl ⟨by rfl, ?_⟩) ?_
          · intro _ h; (try dsimp only at h); go_simp <;> first | decide | assumption
          try simp only [Act.put, gA, gS, gZ, sA, sZ, sS]
          refine tk 13 (.bool true) rfl (.inl ⟨by rfl, ?_⟩) ?_
          · intro _ h; (try dsimp only at h); go_simp <;> first | decide | assumption
          try simp only [Act.put, gA, gS, gZ, sA, sZ, sS]
          refine tk 14 (.slice ba 1 bc) rfl (.inl ⟨by rfl, ?_⟩) ?_
          · intro _ h; (try dsimp only at h); go_simp <;> first | decide | assumption
          try simp only [Act.put, gA, gS, gZ, sA, sZ, sS]
          refine tk 15 (.bool true) rfl (.inl ⟨by rfl, ?_⟩) ?_
          · intro _ h; (try dsimp only at h); go_simp <;> first | decide | assumption
          try simp only [Act.put, gA, gS, gZ, sA, sZ, sS]
          refine wpAnyH_done (by kernel_rfl) ?_ _
          go_wp2_with fail
          go_ret2
          rw [← HR.out]
          exact ⟨⟨_, _, _, rfl, ⟨ht.row, ht.le, ht.max, fun hp => by obtain ⟨g, e1, e2, e3⟩ := ht.own hp; exact ⟨g, e1, Nat.le_trans hb0.size e2, e3⟩⟩⟩, hHeld⟩
        · show Calls _ _ _ _ (RefTo w (Option.map (fun n : Nat => bytesL (n : Int) 1) (if n ≤ 255 then some n else none)))
          rw [if_neg hle]
          show Calls _ _ _ _ (RefTo w none)
          have GLE : ∀ _ : Unit, ¬ (n : Int) < 256 := fun _ => by omega
          clear hle nm
          go_enter Tryz.func34, Tryz.ntmps34
          go_wp2_with fail
          refine (hS _).mono ?_
          rintro e w ⟨rfl, rfl⟩
          go_wp2_with fail
          refine (hK _).mono ?_
          rintro e w ⟨rfl, rfl⟩
          go_wp2_with fail
          refine (HN.out _).mono ?_
          rintro e w ⟨rfl, rfl⟩
          go_wp2_with fail
          have gle := GLE ()
          refine wp_region_held_drew (S := fun x => Below w.heap.size w x) (by kernel_rfl) (Below.drew (Below.refl _ _)) (fun hHeld => ?_)
          refine tk 0 (.int .u64 (n : Int)) rfl (.inl ⟨by rfl, ?_⟩) ?_
          · intro _ h; (try dsimp only at h); go_simp <;> first | decide | assumption
          try simp only [Act.put, gA, gS, gZ, sA, sZ, sS]
          refine tk 1 (.int .i64 1) rfl (.inl ⟨by rfl, ?_⟩) ?_
          · intro _ h; (try dsimp only at h); go_simp <;> first | decide | assumption
          try simp only [Act.put, gA, gS, gZ, sA, sZ, sS]
          refine tk 3 (.bool true) rfl (.inl ⟨by rfl, ?_⟩) ?_
          · intro _ h; (try dsimp only at h); go_simp <;> first | decide | assumption
          try simp only [Act.put, gA, gS, gZ, sA, sZ, sS]
          refine wpAnyH_ready (rs := [2]) (by kernel_rfl) (by simp) ?_
          refine AllReadyH.cons rfl (fun K' hK => ?_) AllReadyH.nil
          rw [if_pos (by rfl)]
          simp only [List.getElem_toArray, List.getElem_cons_succ, List.getElem_cons_zero]
          go_wp2_with fail
          refine (bytesD_any (n : Int) 1 _ (by decide)).mono ?_
          rintro e z ⟨⟨ba, bc, rfl, ht⟩, hbx⟩
          try go_wp2_with fail
          refine hK.out _ _ (Below.andThen hHeld hbx) (fun hHeld => ?_)
          clear hK K'
          try simp only [Act.put, gA, gS, gZ, sA, sZ, sS]
          refine tk 4 (.bool true) rfl (.inl ⟨by rfl, ?_⟩) ?_
          · intro _ h; (try dsimp only at h); go_simp <;> first | decide | assumption
          try simp only [Act.put, gA, gS, gZ, sA, sZ, sS]
          refine tk 5 (.int .i64 8) rfl (.inl ⟨by rfl, ?_⟩) ?_
          · intro _ h; (try dsimp only at h); go_simp <;> first | decide | assumption
          try simp only [Act.put, gA, gS, gZ, sA, sZ, sS]
          refine tk 6 (.bool false) rfl (.inl ⟨by rfl, ?_⟩) ?_
          · intro _ h; (try dsimp only at h); go_simp <;> first | decide | assumption
          try simp only [Act.put, gA, gS, gZ, sA, sZ, sS]
          refine tk 7 (.bool false) rfl (.inl ⟨by rfl, ?_⟩) ?_
          · intro _ h; (try dsimp only at h); go_simp <;> first | decide | assumption
          try simp only [Act.put, gA, gS, gZ, sA, sZ, sS]
          refine tk 8 (.int .u64 (n : Int)) rfl (.inl ⟨by rfl, ?_⟩) ?_
          · intro _ h; (try dsimp only at h); go_simp <;> first | decide | assumption
          try simp only [Act.put, gA, gS, gZ, sA, sZ, sS]
          refine tk 9 (.int .i64 8) rfl (.inl ⟨by rfl, ?_⟩) ?_
          · intro _ h; (try dsimp only at h); go_simp <;> first | decide | assumption
          try simp only [Act.put, gA, gS, gZ, sA, sZ, sS]
          refine tk 10 (.int .u64 256) rfl (.inl ⟨by rfl, ?_⟩) ?_
          · intro _ h; (try dsimp only at h); go_simp <;> first | decide | assumption
          try simp only [Act.put, gA, gS, gZ, sA, sZ, sS]
          refine tk 11 (.bool false) rfl (.inl ⟨by rfl, ?_⟩) ?_
          · intro _ h; (try dsimp only at h); go_simp <;> first | decide | assumption
          try simp only [Act.put, gA, gS, gZ, sA, sZ, sS]
          refine tk 12 (.bool false) rfl (.inl ⟨by rfl, ?_⟩) ?_
          · intro _ h; (try dsimp only at h); go_simp <;> first | decide | assumption
          try simp only [Act.put, gA, gS, gZ, sA, sZ, sS]
          refine tk 13 (.bool false) rfl (.inl ⟨by rfl, ?_⟩) ?_
          · intro _ h; (try dsimp only at h); go_simp <;> first | decide | assumption
          try simp only [Act.put, gA, gS, gZ, sA, sZ, sS]
          refine tk 14 (.slice ba 1 bc) rfl (.inl ⟨by rfl, ?_⟩) ?_
          · intro _ h; (try dsimp only at h); go_simp <;> first | decide | assumption
          try simp only [Act.put, gA, gS, gZ, sA, sZ, sS]
          refine tk 15 (.bool false) rfl (.inl ⟨by rfl, ?_⟩) ?_
          · intro _ h; (try dsimp only at h); go_simp <;> first | decide | assumption
          try simp only [Act.put, gA, gS, gZ, sA, sZ, sS]
          refine wpAnyH_done (by kernel_rfl) ?_ _
          go_wp2_with fail
          go_ret2
          exact ⟨⟨_, rfl⟩, hHeld⟩
    · cases v with
      | none =>
        replace hN : (∀ w : World, Calls Tryz.prog 37 #[.string s] w fun e w' => e = .returned (.tuple #[.int .u64 0, .bool false]) ∧ w' = w) := hN
        have HN : Hid _ := hN
        clear hN
        show Calls _ _ _ _ (RefTo w none)
        clear AM
        go_enter Tryz.func34, Tryz.ntmps34
        go_wp2_with fail
        refine (hS _).mono ?_
        rintro e w ⟨rfl, rfl⟩
        go_wp2_with fail
        refine (hK _).mono ?_
        rintro e w ⟨rfl, rfl⟩
        go_wp2_with fail
        refine (HN.out _).mono ?_
        rintro e w ⟨rfl, rfl⟩
        go_wp2_with fail
        refine wp_region_held_drew (S := fun x => Below w.heap.size w x) (by kernel_rfl) (Below.drew (Below.refl _ _)) (fun hHeld => ?_)
        refine tk 0 (.int .u64 0) rfl (.inl ⟨by rfl, ?_⟩) ?_
        · intro _ h; (try dsimp only at h); go_simp <;> first | decide | assumption
        try simp only [Act.put, gA, gS, gZ, sA, sZ, sS]
        refine tk 1 (.int .i64 1) rfl (.inl ⟨by rfl, ?_⟩) ?_
        · intro _ h; (try dsimp only at h); go_simp <;> first | decide | assumption
        try simp only [Act.put, gA, gS, gZ, sA, sZ, sS]
        refine tk 3 (.bool false) rfl (.inl ⟨by rfl, ?_⟩) ?_
        · intro _ h; (try dsimp only at h); go_simp <;> first | decide | assumption
        try simp only [Act.put, gA, gS, gZ, sA, sZ, sS]
        refine wpAnyH_ready (rs := [2]) (by kernel_rfl) (by simp) ?_
        refine AllReadyH.cons rfl (fun K' hK => ?_) AllReadyH.nil
        rw [if_pos (by rfl)]
        simp only [List.getElem_toArray, List.getElem_cons_succ, List.getElem_cons_zero]
        go_wp2_with fail
        refine (bytesD_any 0 1 _ (by decide)).mono ?_
        rintro e z ⟨⟨ba, bc, rfl, ht⟩, hbx⟩
        try go_wp2_with fail
        refine hK.out _ _ (Below.andThen hHeld hbx) (fun hHeld => ?_)
        clear hK K'
        try simp only [Act.put, gA, gS, gZ, sA, sZ, sS]
        refine tk 4 (.bool false) rfl (.inl ⟨by rfl, ?_⟩) ?_
        · intro _ h; (try dsimp only at h); go_simp <;> first | decide | assumption
        try simp only [Act.put, gA, gS, gZ, sA, sZ, sS]
        refine tk 5 undef rfl (.inr ⟨by rfl, rfl⟩) ?_
        try simp only [Act.put, gA, gS, gZ, sA, sZ, sS]
        refine tk 6 undef rfl (.inr ⟨by rfl, rfl⟩) ?_
        try simp only [Act.put, gA, gS, gZ, sA, sZ, sS]
        refine tk 7 undef rfl (.inr ⟨by rfl, rfl⟩) ?_
        try simp only [Act.put, gA, gS, gZ, sA, sZ, sS]
        refine tk 8 undef rfl (.inr ⟨by rfl, rfl⟩) ?_
        try simp only [Act.put, gA, gS, gZ, sA, sZ, sS]
        refine tk 9 undef rfl (.inr ⟨by rfl, rfl⟩) ?_
        try simp only [Act.put, gA, gS, gZ, sA, sZ, sS]
        refine tk 10 undef rfl (.inr ⟨by rfl, rfl⟩) ?_
        try simp only [Act.put, gA, gS, gZ, sA, sZ, sS]
        refine tk 11 undef rfl (.inr ⟨by rfl, rfl⟩) ?_
        try simp only [Act.put, gA, gS, gZ, sA, sZ, sS]
        refine tk 12 undef rfl (.inr ⟨by rfl, rfl⟩) ?_
        try simp only [Act.put, gA, gS, gZ, sA, sZ, sS]
        refine tk 13 (.bool false) rfl (.inl ⟨by rfl, ?_⟩) ?_
        · intro _ h; (try dsimp only at h); go_simp <;> first | decide | assumption
        try simp only [Act.put, gA, gS, gZ, sA, sZ, sS]
        refine tk 14 (.slice ba 1 bc) rfl (.inl ⟨by rfl, ?_⟩) ?_
        · intro _ h; (try dsimp only at h); go_simp <;> first | decide | assumption
        try simp only [Act.put, gA, gS, gZ, sA, sZ, sS]
        refine tk 15 (.bool false) rfl (.inl ⟨by rfl, ?_⟩) ?_
        · intro _ h; (try dsimp only at h); go_simp <;> first | decide | assumption
        try simp only [Act.put, gA, gS, gZ, sA, sZ, sS]
        refine wpAnyH_done (by kernel_rfl) ?_ _
        go_wp2_with fail
        go_ret2
        exact ⟨⟨_, rfl⟩, hHeld⟩
      | some n =>
        replace hN : (∀ w : World, Calls Tryz.prog 37 #[.string s] w fun e w' => e = .returned (.tuple #[.int .u64 (n : Int), .bool true]) ∧ w' = w) := hN
        have HN : Hid _ := hN
        clear hN
        have nm := AM n rfl
        clear AM
        by_cases hle : n ≤ 255
        · show Calls _ _ _ _ (RefTo w (Option.map (fun n : Nat => bytesL (n : Int) 1) (if n ≤ 255 then some n else none)))
          rw [if_pos hle]
          obtain ⟨R, HR⟩ : ∃ R, Hid (some (bytesL (n : Int) 1) = R) := ⟨_, rfl⟩
          show Calls _ _ _ _ (RefTo w (some (bytesL (n : Int) 1)))
          rw [HR.out]
          have GLE : ∀ _ : Unit, (n : Int) < 256 := fun _ => by omega
          clear hle nm
          go_enter Tryz.func34, Tryz.ntmps34
          go_wp2_with fail
          refine (hS _).mono ?_
          rintro e w ⟨rfl, rfl⟩
          go_wp2_with fail
          refine (hK _).mono ?_
          rintro e w ⟨rfl, rfl⟩
          go_wp2_with fail
          refine (HN.out _).mono ?_
          rintro e w ⟨rfl, rfl⟩
          go_wp2_with fail
          have gle := GLE ()
          refine wp_region_held_drew (S := fun x => Below w.heap.size w x) (by kernel_rfl) (Below.drew (Below.refl _ _)) (fun hHeld => ?_)
          refine tk 0 (.int .u64 (n : Int)) rfl (.inl ⟨by rfl, ?_⟩) ?_
          · intro _ h; (try dsimp only at h); go_simp <;> first | decide | assumption
          try simp only [Act.put, gA, gS, gZ, sA, sZ, sS]
          refine tk 1 (.int .i64 1) rfl (.inl ⟨by rfl, ?_⟩) ?_
          · intro _ h; (try dsimp only at h); go_simp <;> first | decide | assumption
          try simp only [Act.put, gA, gS, gZ, sA, sZ, sS]
          refine tk 3 (.bool true) rfl (.inl ⟨by rfl, ?_⟩) ?_
          · intro _ h; (try dsimp only at h); go_simp <;> first | decide | assumption
          try simp only [Act.put, gA, gS, gZ, sA, sZ, sS]
          refine wpAnyH_ready (rs := [2]) (by kernel_rfl) (by simp) ?_
          refine AllReadyH.cons rfl (fun K' hK => ?_) AllReadyH.nil
          rw [if_pos (by rfl)]
          simp only [List.getElem_toArray, List.getElem_cons_succ, List.getElem_cons_zero]
          go_wp2_with fail
          refine (bytesD_any (n : Int) 1 _ (by decide)).mono ?_
          rintro e z ⟨⟨ba, bc, rfl, ht⟩, hbx⟩
          try go_wp2_with fail
          have hb0 := hHeld
          refine hK.out _ _ (Below.andThen hHeld hbx) (fun hHeld => ?_)
          clear hK K'
          try simp only [Act.put, gA, gS, gZ, sA, sZ, sS]
          refine tk 4 (.bool true) rfl (.inl ⟨by rfl, ?_⟩) ?_
          · intro _ h; (try dsimp only at h); go_simp <;> first | decide | assumption
          try simp only [Act.put, gA, gS, gZ, sA, sZ, sS]
          refine tk 5 (.int .i64 8) rfl (.inl ⟨by rfl, ?_⟩) ?_
          · intro _ h; (try dsimp only at h); go_simp <;> first | decide | assumption
          try simp only [Act.put, gA, gS, gZ, sA, sZ, sS]
          refine tk 6 (.bool false) rfl (.inl ⟨by rfl, ?_⟩) ?_
          · intro _ h; (try dsimp only at h); go_simp <;> first | decide | assumption
          try simp only [Act.put, gA, gS, gZ, sA, sZ, sS]
          refine tk 7 (.bool false) rfl (.inl ⟨by rfl, ?_⟩) ?_
          · intro _ h; (try dsimp only at h); go_simp <;> first | decide | assumption
          try simp only [Act.put, gA, gS, gZ, sA, sZ, sS]
          refine tk 8 (.int .u64 (n : Int)) rfl (.inl ⟨by rfl, ?_⟩) ?_
          · intro _ h; (try dsimp only at h); go_simp <;> first | decide | assumption
          try simp only [Act.put, gA, gS, gZ, sA, sZ, sS]
          refine tk 9 (.int .i64 8) rfl (.inl ⟨by rfl, ?_⟩) ?_
          · intro _ h; (try dsimp only at h); go_simp <;> first | decide | assumption
          try simp only [Act.put, gA, gS, gZ, sA, sZ, sS]
          refine tk 10 (.int .u64 256) rfl (.inl ⟨by rfl, ?_⟩) ?_
          · intro _ h; (try dsimp only at h); go_simp <;> first | decide | assumption
          try simp only [Act.put, gA, gS, gZ, sA, sZ, sS]
          refine tk 11 (.bool true) rfl (.inl ⟨by rfl, ?_⟩) ?_
          · intro _ h; (try dsimp only at h); go_simp <;> first | decide | assumption
          try simp only [Act.put, gA, gS, gZ, sA, sZ, sS]
          refine tk 12 (.bool true) rfl (.inl ⟨by rfl, ?_⟩) ?_
          · intro _ h; (try dsimp only at h); go_simp <;> first | decide | assumption
          try simp only [Act.put, gA, gS, gZ, sA, sZ, sS]
          refine tk 13 (.bool true) rfl (.inl ⟨by rfl, ?_⟩) ?_
          · intro _ h; (try dsimp only at h); go_simp <;> first | decide | assumption
          try simp only [Act.put, gA, gS, gZ, sA, sZ, sS]
          refine tk 14 (.slice ba 1 bc) rfl (.inl ⟨by rfl, ?_⟩) ?_
          · intro _ h; (try dsimp only at h); go_simp <;> first | decide | assumption
          try simp only [Act.put, gA, gS, gZ, sA, sZ, sS]
          refine tk 15 (.bool true) rfl (.inl ⟨by rfl, ?_⟩) ?_
          · intro _ h; (try dsimp only at h); go_simp <;> first | decide | assumption
          try simp only [Act.put, gA, gS, gZ, sA, sZ, sS]
          refine wpAnyH_done (by kernel_rfl) ?_ _
          go_wp2_with fail
          go_ret2
          rw [← HR.out]
          exact ⟨⟨_, _, _, rfl, ⟨ht.row, ht.le, ht.max, fun hp => by obtain ⟨g, e1, e2, e3⟩ := ht.own hp; exact ⟨g, e1, Nat.le_trans hb0.size e2, e3⟩⟩⟩, hHeld⟩
        · show Calls _ _ _ _ (RefTo w (Option.map (fun n : Nat => bytesL (n : Int) 1) (if n ≤ 255 then some n else none)))
          rw [if_neg hle]
          show Calls _ _ _ _ (RefTo w none)
          have GLE : ∀ _ : Unit, ¬ (n : Int) < 256 := fun _ => by omega
          clear hle nm
          go_enter Tryz.func34, Tryz.ntmps34
          go_wp2_with fail
          refine (hS _).mono ?_
          rintro e w ⟨rfl, rfl⟩
          go_wp2_with fail
          refine (hK _).mono ?_
          rintro e w ⟨rfl, rfl⟩
          go_wp2_with fail
          refine (HN.out _).mono ?_
          rintro e w ⟨rfl, rfl⟩
          go_wp2_with fail
          have gle := GLE ()
          refine wp_region_held_drew (S := fun x => Below w.heap.size w x) (by kernel_rfl) (Below.drew (Below.refl _ _)) (fun hHeld => ?_)
          refine tk 0 (.int .u64 (n : Int)) rfl (.inl ⟨by rfl, ?_⟩) ?_
          · intro _ h; (try dsimp only at h); go_simp <;> first | decide | assumption
          try simp only [Act.put, gA, gS, gZ, sA, sZ, sS]
          refine tk 1 (.int .i64 1) rfl (.inl ⟨by rfl, ?_⟩) ?_
          · intro _ h; (try dsimp only at h); go_simp <;> first | decide | assumption
          try simp only [Act.put, gA, gS, gZ, sA, sZ, sS]
          refine tk 3 (.bool true) rfl (.inl ⟨by rfl, ?_⟩) ?_
          · intro _ h; (try dsimp only at h); go_simp <;> first | decide | assumption
          try simp only [Act.put, gA, gS, gZ, sA, sZ, sS]
          refine wpAnyH_ready (rs := [2]) (by kernel_rfl) (by simp) ?_
          refine AllReadyH.cons rfl (fun K' hK => ?_) AllReadyH.nil
          rw [if_pos (by rfl)]
          simp only [List.getElem_toArray, List.getElem_cons_succ, List.getElem_cons_zero]
          go_wp2_with fail
          refine (bytesD_any (n : Int) 1 _ (by decide)).mono ?_
          rintro e z ⟨⟨ba, bc, rfl, ht⟩, hbx⟩
          try go_wp2_with fail
          refine hK.out _ _ (Below.andThen hHeld hbx) (fun hHeld => ?_)
          clear hK K'
          try simp only [Act.put, gA, gS, gZ, sA, sZ, sS]
          refine tk 4 (.bool true) rfl (.inl ⟨by rfl, ?_⟩) ?_
          · intro _ h; (try dsimp only at h); go_simp <;> first | decide | assumption
          try simp only [Act.put, gA, gS, gZ, sA, sZ, sS]
          refine tk 5 (.int .i64 8) rfl (.inl ⟨by rfl, ?_⟩) ?_
          · intro _ h; (try dsimp only at h); go_simp <;> first | decide | assumption
          try simp only [Act.put, gA, gS, gZ, sA, sZ, sS]
          refine tk 6 (.bool false) rfl (.inl ⟨by rfl, ?_⟩) ?_
          · intro _ h; (try dsimp only at h); go_simp <;> first | decide | assumption
          try simp only [Act.put, gA, gS, gZ, sA, sZ, sS]
          refine tk 7 (.bool false) rfl (.inl ⟨by rfl, ?_⟩) ?_
          · intro _ h; (try dsimp only at h); go_simp <;> first | decide | assumption
          try simp only [Act.put, gA, gS, gZ, sA, sZ, sS]
          refine tk 8 (.int .u64 (n : Int)) rfl (.inl ⟨by rfl, ?_⟩) ?_
          · intro _ h; (try dsimp only at h); go_simp <;> first | decide | assumption
          try simp only [Act.put, gA, gS, gZ, sA, sZ, sS]
          refine tk 9 (.int .i64 8) rfl (.inl ⟨by rfl, ?_⟩) ?_
          · intro _ h; (try dsimp only at h); go_simp <;> first | decide | assumption
          try simp only [Act.put, gA, gS, gZ, sA, sZ, sS]
          refine tk 10 (.int .u64 256) rfl (.inl ⟨by rfl, ?_⟩) ?_
          · intro _ h; (try dsimp only at h); go_simp <;> first | decide | assumption
          try simp only [Act.put, gA, gS, gZ, sA, sZ, sS]
          refine tk 11 (.bool false) rfl (.inl ⟨by rfl, ?_⟩) ?_
          · intro _ h; (try dsimp only at h); go_simp <;> first | decide | assumption
          try simp only [Act.put, gA, gS, gZ, sA, sZ, sS]
          refine tk 12 (.bool false) rfl (.inl ⟨by rfl, ?_⟩) ?_
          · intro _ h; (try dsimp only at h); go_simp <;> first | decide | assumption
          try simp only [Act.put, gA, gS, gZ, sA, sZ, sS]
          refine tk 13 (.bool false) rfl (.inl ⟨by rfl, ?_⟩) ?_
          · intro _ h; (try dsimp only at h); go_simp <;> first | decide | assumption
          try simp only [Act.put, gA, gS, gZ, sA, sZ, sS]
          refine tk 14 (.slice ba 1 bc) rfl (.inl ⟨by rfl, ?_⟩) ?_
          · intro _ h; (try dsimp only at h); go_simp <;> first | decide | assumption
          try simp only [Act.put, gA, gS, gZ, sA, sZ, sS]
          refine tk 15 (.bool false) rfl (.inl ⟨by rfl, ?_⟩) ?_
          · intro _ h; (try dsimp only at h); go_simp <;> first | decide | assumption
          try simp only [Act.put, gA, gS, gZ, sA, sZ, sS]
          refine wpAnyH_done (by kernel_rfl) ?_ _
          go_wp2_with fail
          go_ret2
          exact ⟨⟨_, rfl⟩, hHeld⟩

set_option linter.unusedSimpArgs false in
set_option maxHeartbeats 4000000 in
set_option maxRecDepth 100000 in
theorem wholeU2 (t : Int) (l : List UInt8) (w : World) (hk : kindN t = 3) (hs : sizeN t = 2) (hl : l.length ≤ 1000000) :
    Calls Tryz.prog 34 #[.int .u8 t, .string (str l)] w (RefTo w (intV t l)) := by
  have hlt : letN t = 117 := by unfold letN; rw [hk]; rfl
  have hS := fun w => refSize_any t w
  have hK := fun w => refKind_any t w
  rw [hs] at hS
  rw [hlt] at hK
  have hN := fun w => refNumberD_any l w hl
  have hH := fun w => hexD_any (l.drop 2) w
  have IV : Hid (intV t l = ((anyU l).bind fun n => if n ≤ 65535 then some n else none).map fun n : Nat => bytesL (n : Int) 2) := by
    show _ = _
    rw [uns_int t l 2 hs hk]
    rw [show (2 ^ (8 * 2) - 1 : Nat) = 65535 from rfl, unsV_any 65535 (by decide) l]
    generalize ((anyU l).bind fun n => if n ≤ 65535 then some n else none) = o
    cases o <;> rfl
  have SF := slice_from l 2
  have ST : 2 ≤ l.length → ∀ w : World, (Instr.slice 9 (.string (str l)) none (some (.int .i64 2)) none).run Tryz.prog w = .ok (.string (str (l.take 2))) w := fun hk w => by
    have hs : (str l).size = l.length := by unfold str; simp [ByteArray.size]
    rw [run_slice_string_h (P := Tryz.prog) w 9 (str l) Tryz.underlying9 .i64 _ (by omega) (by rw [hs]; omega)]
    congr 2
    apply ByteArray.ext
    simp [str, ByteArray.data_extract]
  obtain ⟨s, HSL, htl, hsz, _⟩ := str_facts l
  rw [HSL.out] at hN SF ST ⊢
  rw [IV.out]
  have AM := fun n h => anyU_max l n h
  by_cases hx : Lib.hasPrefix l [48, 120] = true ∧ 2 < l.length
  · have hA : anyU l = hexV (l.drop 2) := by unfold anyU; rw [if_pos hx]
    rw [hA] at AM ⊢
    have g2 : (2 : Int) < (l.length : Int) := by omega
    have sf := SF (by omega)
    have st := ST (by omega)
    have t2 : l.take 2 = [48, 120] := by have := hx.1; rw [pfx2 l hx.2] at this; simpa using this
    rw [t2] at st
    have st' : ∀ w : World, (Instr.slice 9 (.string s) none (some (.int .i64 2)) none).run Tryz.prog w = .ok (.string ⟨#[48, 120]⟩) w := st
    have sf' : ∀ w : World, (Instr.slice 9 (.string s) (some (.int .i64 2)) none none).run Tryz.prog w = .ok (.string (str (l.drop 2))) w := sf
    clear SF ST st sf t2 hA hx IV
    generalize str (l.drop 2) = sx at *
    generalize hexV (l.drop 2) = v at *
    generalize decV 18446744073709551615 l = v0 at *
    obtain ⟨n0, b0, HN⟩ : ∃ (n0 : Int) (b0 : Bool), Hid (∀ w : World, Calls Tryz.prog 37 #[.string s] w fun e w' => e = .returned (.tuple #[.int .u64 n0, .bool b0]) ∧ w' = w) := by cases v0 with | none => exact ⟨_, _, hN⟩ | some m => exact ⟨_, _, hN⟩
    clear hN
    cases v with
    | none =>
      replace hH : (∀ w : World, Calls Tryz.prog 40 #[.string sx] w fun e w' => e = .returned (.tuple #[.int .u64 0, .bool false]) ∧ w' = w) := hH
      show Calls _ _ _ _ (RefTo w none)
      clear AM
      go_enter Tryz.func34, Tryz.ntmps34
      go_wp2_with fail
      refine (hS _).mono ?_
      rintro e w ⟨rfl, rfl⟩
      go_wp2_with fail
      refine (hK _).mono ?_
      rintro e w ⟨rfl, rfl⟩
      go_wp2_with fail
      refine (HN.out _).mono ?_
      rintro e w ⟨rfl, rfl⟩
      go_wp2_with fail
      refine (hH _).mono ?_
      rintro e w ⟨rfl, rfl⟩
      go_wp2_with fail
      refine wp_region_held_drew (S := fun x => Below w.heap.size w x) (by kernel_rfl) (Below.drew (Below.refl _ _)) (fun hHeld => ?_)
      refine tk 0 (.int .u64 0) rfl (.inl ⟨by rfl, ?_⟩) ?_
      · intro _ h; (try dsimp only at h); go_simp <;> first | decide | assumption
      try simp only [Act.put, gA, gS, gZ, sA, sZ, sS]
      refine tk 1 (.int .i64 2) rfl (.inl ⟨by rfl, ?_⟩) ?_
      · intro _ h; (try dsimp only at h); go_simp <;> first | decide | assumption
      try simp only [Act.put, gA, gS, gZ, sA, sZ, sS]
      refine tk 3 (.bool false) rfl (.inl ⟨by rfl, ?_⟩) ?_
      · intro _ h; (try dsimp only at h); go_simp <;> first | decide | assumption
      try simp only [Act.put, gA, gS, gZ, sA, sZ, sS]
      refine wpAnyH_ready (rs := [2]) (by kernel_rfl) (by simp) ?_
      refine AllReadyH.cons rfl (fun K' hK => ?_) AllReadyH.nil
      rw [if_pos (by rfl)]
      simp only [List.getElem_toArray, List.getElem_cons_succ, List.getElem_cons_zero]
      go_wp2_with fail
      refine (bytesD_any 0 2 _ (by decide)).mono ?_
      rintro e z ⟨⟨ba, bc, rfl, ht⟩, hbx⟩
      try go_wp2_with fail
      refine hK.out _ _ (Below.andThen hHeld hbx) (fun hHeld => ?_)
      clear hK K'
      try simp only [Act.put, gA, gS, gZ, sA, sZ, sS]
      refine tk 4 (.bool false) rfl (.inl ⟨by rfl, ?_⟩) ?_
      · intro _ h; (try dsimp only at h); go_simp <;> first | decide | assumption
      try simp only [Act.put, gA, gS, gZ, sA, sZ, sS]
      refine tk 5 undef rfl (.inr ⟨by rfl, rfl⟩) ?_
      try simp only [Act.put, gA, gS, gZ, sA, sZ, sS]
      refine tk 6 undef rfl (.inr ⟨by rfl, rfl⟩) ?_
      try simp only [Act.put, gA, gS, gZ, sA, sZ, sS]
      refine tk 7 undef rfl (.inr ⟨by rfl, rfl⟩) ?_
      try simp only [Act.put, gA, gS, gZ, sA, sZ, sS]
      refine tk 8 undef rfl (.inr ⟨by rfl, rfl⟩) ?_
      try simp only [Act.put, gA, gS, gZ, sA, sZ, sS]
      refine tk 9 undef rfl (.inr ⟨by rfl, rfl⟩) ?_
      try simp only [Act.put, gA, gS, gZ, sA, sZ, sS]
      refine tk 10 undef rfl (.inr ⟨by rfl, rfl⟩) ?_
      try simp only [Act.put, gA, gS, gZ, sA, sZ, sS]
      refine tk 11 undef rfl (.inr ⟨by rfl, rfl⟩) ?_
      try simp only [Act.put, gA, gS, gZ, sA, sZ, sS]
      refine tk 12 undef rfl (.inr ⟨by rfl, rfl⟩) ?_
      try simp only [Act.put, gA, gS, gZ, sA, sZ, sS]
      refine tk 13 (.bool false) rfl (.inl ⟨by rfl, ?_⟩) ?_
      · intro _ h; (try dsimp only at h); go_simp <;> first | decide | assumption
      try simp only [Act.put, gA, gS, gZ, sA, sZ, sS]
      refine tk 14 (.slice ba 2 bc) rfl (.inl ⟨by rfl, ?_⟩) ?_
      · intro _ h; (try dsimp only at h); go_simp <;> first | decide | assumption
      try simp only [Act.put, gA, gS, gZ, sA, sZ, sS]
      refine tk 15 (.bool false) rfl (.inl ⟨by rfl, ?_⟩) ?_
      · intro _ h; (try dsimp only at h); go_simp <;> first | decide | assumption
      try simp only [Act.put, gA, gS, gZ, sA, sZ, sS]
      refine wpAnyH_done (by kernel_rfl) ?_ _
      go_wp2_with fail
      go_ret2
      exact ⟨⟨_, rfl⟩, hHeld⟩
    | some n =>
      replace hH : (∀ w : World, Calls Tryz.prog 40 #[.string sx] w fun e w' => e = .returned (.tuple #[.int .u64 (n : Int), .bool true]) ∧ w' = w) := hH
      have nm := AM n rfl
      clear AM
      by_cases hle : n ≤ 65535
      · show Calls _ _ _ _ (RefTo w (Option.map (fun n : Nat => bytesL (n : Int) 2) (if n ≤ 65535 then some n else none)))
        rw [if_pos hle]
        obtain ⟨R, HR⟩ : ∃ R, Hid (some (bytesL (n : Int) 2) = R) := ⟨_, rfl⟩
        show Calls _ _ _ _ (RefTo w (some (bytesL (n : Int) 2)))
        rw [HR.out]
        have GLE : ∀ _ : Unit, (n : Int) < 65536 := fun _ => by omega
        clear hle nm
        go_enter Tryz.func34, Tryz.ntmps34
        go_wp2_with fail
        refine (hS _).mono ?_
        rintro e w ⟨rfl, rfl⟩
        go_wp2_with fail
        refine (hK _).mono ?_
        rintro e w ⟨rfl, rfl⟩
        go_wp2_with fail
        refine (HN.out _).mono ?_
        rintro e w ⟨rfl, rfl⟩
        go_wp2_with fail
        refine (hH _).mono ?_
        rintro e w ⟨rfl, rfl⟩
        go_wp2_with fail
        have gle := GLE ()
        refine wp_region_held_drew (S := fun x => Below w.heap.size w x) (by kernel_rfl) (Below.drew (Below.refl _ _)) (fun hHeld => ?_)
        refine tk 0 (.int .u64 (n : Int)) rfl (.inl ⟨by rfl, ?_⟩) ?_
        · intro _ h; (try dsimp only at h); go_simp <;> first | decide | assumption
        try simp only [Act.put, gA, gS, gZ, sA, sZ, sS]
        refine tk 1 (.int .i64 2) rfl (.inl ⟨by rfl, ?_⟩) ?_
        · intro _ h; (try dsimp only at h); go_simp <;> first | decide | assumption
        try simp only [Act.put, gA, gS, gZ, sA, sZ, sS]
        refine tk 3 (.bool true) rfl (.inl ⟨by rfl, ?_⟩) ?_
        · intro _ h; (try dsimp only at h); go_simp <;> first | decide | assumption
        try simp only [Act.put, gA, gS, gZ, sA, sZ, sS]
        refine wpAnyH_ready (rs := [2]) (by kernel_rfl) (by simp) ?_
        refine AllReadyH.cons rfl (fun K' hK => ?_) AllReadyH.nil
        rw [if_pos (by rfl)]
        simp only [List.getElem_toArray, List.getElem_cons_succ, List.getElem_cons_zero]
        go_wp2_with fail
        refine (bytesD_any (n : Int) 2 _ (by decide)).mono ?_
        rintro e z ⟨⟨ba, bc, rfl, ht⟩, hbx⟩
        try go_wp2_with fail
        have hb0 := hHeld
        refine hK.out _ _ (Below.andThen hHeld hbx) (fun hHeld => ?_)
        clear hK K'
        try simp only [Act.put, gA, gS, gZ, sA, sZ, sS]
        refine tk 4 (.bool true) rfl (.inl ⟨by rfl, ?_⟩) ?_
        · intro _ h; (try dsimp only at h); go_simp <;> first | decide | assumption
        try simp only [Act.put, gA, gS, gZ, sA, sZ, sS]
        refine tk 5 (.int .i64 16) rfl (.inl ⟨by rfl, ?_⟩) ?_
        · intro _ h; (try dsimp only at h); go_simp <;> first | decide | assumption
        try simp only [Act.put, gA, gS, gZ, sA, sZ, sS]
        refine tk 6 (.bool false) rfl (.inl ⟨by rfl, ?_⟩) ?_
        · intro _ h; (try dsimp only at h); go_simp <;> first | decide | assumption
        try simp only [Act.put, gA, gS, gZ, sA, sZ, sS]
        refine tk 7 (.bool false) rfl (.inl ⟨by rfl, ?_⟩) ?_
        · intro _ h; (try dsimp only at h); go_simp <;> first | decide | assumption
        try simp only [Act.put, gA, gS, gZ, sA, sZ, sS]
        refine tk 8 (.int .u64 (n : Int)) rfl (.inl ⟨by rfl, ?_⟩) ?_
        · intro _ h; (try dsimp only at h); go_simp <;> first | decide | assumption
        try simp only [Act.put, gA, gS, gZ, sA, sZ, sS]
        refine tk 9 (.int .i64 16) rfl (.inl ⟨by rfl, ?_⟩) ?_
        · intro _ h; (try dsimp only at h); go_simp <;> first | decide | assumption
        try simp only [Act.put, gA, gS, gZ, sA, sZ, sS]
        refine tk 10 (.int .u64 65536) rfl (.inl ⟨by rfl, ?_⟩) ?_
        · intro _ h; (try dsimp only at h); go_simp <;> first | decide | assumption
        try simp only [Act.put, gA, gS, gZ, sA, sZ, sS]
        refine tk 11 (.bool true) rfl (.inl ⟨by rfl, ?_⟩) ?_
        · intro _ h; (try dsimp only at h); go_simp <;> first | decide | assumption
        try simp only [Act.put, gA, gS, gZ, sA, sZ, sS]
        refine tk 12 (.bool true) rfl (.inl ⟨by rfl, ?_⟩) ?_
        · intro _ h; (try dsimp only at h); go_simp <;> first | decide | assumption
        try simp only [Act.put, gA, gS, gZ, sA, sZ, sS]
        refine tk 13 (.bool true) rfl (.inl ⟨by rfl, ?_⟩) ?_
        · intro _ h; (try dsimp only at h); go_simp <;> first | decide | assumption
        try simp only [Act.put, gA, gS, gZ, sA, sZ, sS]
        refine tk 14 (.slice ba 2 bc) rfl (.inl ⟨by rfl, ?_⟩) ?_
        · intro _ h; (try dsimp only at h); go_simp <;> first | decide | assumption
        try simp only [Act.put, gA, gS, gZ, sA, sZ, sS]
        refine tk 15 (.bool true) rfl (.inl ⟨by rfl, ?_⟩) ?_
        · intro _ h; (try dsimp only at h); go_simp <;> first | decide | assumption
        try simp only [Act.put, gA, gS, gZ, sA, sZ, sS]
        refine wpAnyH_done (by kernel_rfl) ?_ _
        go_wp2_with fail
        go_ret2
        rw [← HR.out]
        exact ⟨⟨_, _, _, rfl, ⟨ht.row, ht.le, ht.max, fun hp => by obtain ⟨g, e1, e2, e3⟩ := ht.own hp; exact ⟨g, e1, Nat.le_trans hb0.size e2, e3⟩⟩⟩, hHeld⟩
      · show Calls _ _ _ _ (RefTo w (Option.map (fun n : Nat => bytesL (n : Int) 2) (if n ≤ 65535 then some n else none)))
        rw [if_neg hle]
        show Calls _ _ _ _ (RefTo w none)
        have GLE : ∀ _ : Unit, ¬ (n : Int) < 65536 := fun _ => by omega
        clear hle nm
        go_enter Tryz.func34, Tryz.ntmps34
        go_wp2_with fail
        refine (hS _).mono ?_
        rintro e w ⟨rfl, rfl⟩
        go_wp2_with fail
        refine (hK _).mono ?_
        rintro e w ⟨rfl, rfl⟩
        go_wp2_with fail
        refine (HN.out _).mono ?_
        rintro e w ⟨rfl, rfl⟩
        go_wp2_with fail
        refine (hH _).mono ?_
        rintro e w ⟨rfl, rfl⟩
        go_wp2_with fail
        have gle := GLE ()
        refine wp_region_held_drew (S := fun x => Below w.heap.size w x) (by kernel_rfl) (Below.drew (Below.refl _ _)) (fun hHeld => ?_)
        refine tk 0 (.int .u64 (n : Int)) rfl (.inl ⟨by rfl, ?_⟩) ?_
        · intro _ h; (try dsimp only at h); go_simp <;> first | decide | assumption
        try simp only [Act.put, gA, gS, gZ, sA, sZ, sS]
        refine tk 1 (.int .i64 2) rfl (.inl ⟨by rfl, ?_⟩) ?_
        · intro _ h; (try dsimp only at h); go_simp <;> first | decide | assumption
        try simp only [Act.put, gA, gS, gZ, sA, sZ, sS]
        refine tk 3 (.bool true) rfl (.inl ⟨by rfl, ?_⟩) ?_
        · intro _ h; (try dsimp only at h); go_simp <;> first | decide | assumption
        try simp only [Act.put, gA, gS, gZ, sA, sZ, sS]
        refine wpAnyH_ready (rs := [2]) (by kernel_rfl) (by simp) ?_
        refine AllReadyH.cons rfl (fun K' hK => ?_) AllReadyH.nil
        rw [if_pos (by rfl)]
        simp only [List.getElem_toArray, List.getElem_cons_succ, List.getElem_cons_zero]
        go_wp2_with fail
        refine (bytesD_any (n : Int) 2 _ (by decide)).mono ?_
        rintro e z ⟨⟨ba, bc, rfl, ht⟩, hbx⟩
        try go_wp2_with fail
        refine hK.out _ _ (Below.andThen hHeld hbx) (fun hHeld => ?_)
        clear hK K'
        try simp only [Act.put, gA, gS, gZ, sA, sZ, sS]
        refine tk 4 (.bool true) rfl (.inl ⟨by rfl, ?_⟩) ?_
        · intro _ h; (try dsimp only at h); go_simp <;> first | decide | assumption
        try simp only [Act.put, gA, gS, gZ, sA, sZ, sS]
        refine tk 5 (.int .i64 16) rfl (.inl ⟨by rfl, ?_⟩) ?_
        · intro _ h; (try dsimp only at h); go_simp <;> first | decide | assumption
        try simp only [Act.put, gA, gS, gZ, sA, sZ, sS]
        refine tk 6 (.bool false) rfl (.inl ⟨by rfl, ?_⟩) ?_
        · intro _ h; (try dsimp only at h); go_simp <;> first | decide | assumption
        try simp only [Act.put, gA, gS, gZ, sA, sZ, sS]
        refine tk 7 (.bool false) rfl (.inl ⟨by rfl, ?_⟩) ?_
        · intro _ h; (try dsimp only at h); go_simp <;> first | decide | assumption
        try simp only [Act.put, gA, gS, gZ, sA, sZ, sS]
        refine tk 8 (.int .u64 (n : Int)) rfl (.inl ⟨by rfl, ?_⟩) ?_
        · intro _ h; (try dsimp only at h); go_simp <;> first | decide | assumption
        try simp only [Act.put, gA, gS, gZ, sA, sZ, sS]
        refine tk 9 (.int .i64 16) rfl (.inl ⟨by rfl, ?_⟩) ?_
        · intro _ h; (try dsimp only at h); go_simp <;> first | decide | assumption
        try simp only [Act.put, gA, gS, gZ, sA, sZ, sS]
        refine tk 10 (.int .u64 65536) rfl (.inl ⟨by rfl, ?_⟩) ?_
        · intro _ h; (try dsimp only at h); go_simp <;> first | decide | assumption
        try simp only [Act.put, gA, gS, gZ, sA, sZ, sS]
        refine tk 11 (.bool false) rfl (.inl ⟨by rfl, ?_⟩) ?_
        · intro _ h; (try dsimp only at h); go_simp <;> first | decide | assumption
        try simp only [Act.put, gA, gS, gZ, sA, sZ, sS]
        refine tk 12 (.bool false) rfl (.inl ⟨by rfl, ?_⟩) ?_
        · intro _ h; (try dsimp only at h); go_simp <;> first | decide | assumption
        try simp only [Act.put, gA, gS, gZ, sA, sZ, sS]
        refine tk 13 (.bool false) rfl (.inl ⟨by rfl, ?_⟩) ?_
        · intro _ h; (try dsimp only at h); go_simp <;> first | decide | assumption
        try simp only [Act.put, gA, gS, gZ, sA, sZ, sS]
        refine tk 14 (.slice ba 2 bc) rfl (.inl ⟨by rfl, ?_⟩) ?_
        · intro _ h; (try dsimp only at h); go_simp <;> first | decide | assumption
        try simp only [Act.put, gA, gS, gZ, sA, sZ, sS]
        refine tk 15 (.bool false) rfl (.inl ⟨by rfl, ?_⟩) ?_
        · intro _ h; (try dsimp only at h); go_simp <;> first | decide | assumption
        try simp only [Act.put, gA, gS, gZ, sA, sZ, sS]
        refine wpAnyH_done (by kernel_rfl) ?_ _
        go_wp2_with fail
        go_ret2
        exact ⟨⟨_, rfl⟩, hHeld⟩
  · have hA : anyU l = decV 18446744073709551615 l := by unfold anyU; rw [if_neg hx]
    rw [hA] at AM ⊢
    have ways : (¬ (2 : Int) < (l.length : Int)) ∨ ((2 : Int) < (l.length : Int) ∧ ∃ q : ByteArray, (∀ w : World, (Instr.slice 9 (.string s) none (some (.int .i64 2)) none).run Tryz.prog w = .ok (.string q) w) ∧ (q.toList == [48, 120]) = false) := by
      by_cases h2 : 2 < l.length
      · refine .inr ⟨by omega, str (l.take 2), ST (by omega), ?_⟩
        rw [show (str (l.take 2)).toList = l.take 2 from by rw [Lib.toList_data]; rfl, ← pfx2 l h2]
        have : ¬ Lib.hasPrefix l [48, 120] = true := fun h => hx ⟨h, h2⟩
        simpa using this
      · exact .inl (by omega)
    clear SF ST hA hx hH IV
    generalize decV 18446744073709551615 l = v at *
    rcases ways with g2 | ⟨g2, q, st, nq⟩
    · cases v with
      | none =>
        replace hN : (∀ w : World, Calls Tryz.prog 37 #[.string s] w fun e w' => e = .returned (.tuple #[.int .u64 0, .bool false]) ∧ w' = w) := hN
        have HN : Hid _ := hN
        clear hN
        show Calls _ _ _ _ (RefTo w none)
        clear AM
        go_enter Tryz.func34, Tryz.ntmps34
        go_wp2_with fail
        refine (hS _).mono ?_
        rintro e w ⟨rfl, rfl⟩
        go_wp2_with fail
        refine (hK _).mono ?_
        rintro e w ⟨rfl, rfl⟩
        go_wp2_with fail
        refine (HN.out _).mono ?_
        rintro e w ⟨rfl, rfl⟩
        go_wp2_with fail
        refine wp_region_held_drew (S := fun x => Below w.heap.size w x) (by kernel_rfl) (Below.drew (Below.refl _ _)) (fun hHeld => ?_)
        refine tk 0 (.int .u64 0) rfl (.inl ⟨by rfl, ?_⟩) ?_
        · intro _ h; (try dsimp only at h); go_simp <;> first | decide | assumption
        try simp only [Act.put, gA, gS, gZ, sA, sZ, sS]
        refine tk 1 (.int .i64 2) rfl (.inl ⟨by rfl, ?_⟩) ?_
        · intro _ h; (try dsimp only at h); go_simp <;> first | decide | assumption
        try simp only [Act.put, gA, gS, gZ, sA, sZ, sS]
        refine tk 3 (.bool false) rfl (.inl ⟨by rfl, ?_⟩) ?_
        · intro _ h; (try dsimp only at h); go_simp <;> first | decide | assumption
        try simp only [Act.put, gA, gS, gZ, sA, sZ, sS]
        refine wpAnyH_ready (rs := [2]) (by kernel_rfl) (by simp) ?_
        refine AllReadyH.cons rfl (fun K' hK => ?_) AllReadyH.nil
        rw [if_pos (by rfl)]
        simp only [List.getElem_toArray, List.getElem_cons_succ, List.getElem_cons_zero]
        go_wp2_with fail
        refine (bytesD_any 0 2 _ (by decide)).mono ?_
        rintro e z ⟨⟨ba, bc, rfl, ht⟩, hbx⟩
        try go_wp2_with fail
        refine hK.out _ _ (Below.andThen hHeld hbx) (fun hHeld => ?_)
        clear hK K'
        try simp only [Act.put, gA, gS, gZ, sA, sZ, sS]
        refine tk 4 (.bool false) rfl (.inl ⟨by rfl, ?_⟩) ?_
        · intro _ h; (try dsimp only at h); go_simp <;> first | decide | assumption
        try simp only [Act.put, gA, gS, gZ, sA, sZ, sS]
        refine tk 5 undef rfl (.inr ⟨by rfl, rfl⟩) ?_
        try simp only [Act.put, gA, gS, gZ, sA, sZ, sS]
        refine tk 6 undef rfl (.inr ⟨by rfl, rfl⟩) ?_
        try simp only [Act.put, gA, gS, gZ, sA, sZ, sS]
        refine tk 7 undef rfl (.inr ⟨by rfl, rfl⟩) ?_
        try simp only [Act.put, gA, gS, gZ, sA, sZ, sS]
        refine tk 8 undef rfl (.inr ⟨by rfl, rfl⟩) ?_
        try simp only [Act.put, gA, gS, gZ, sA, sZ, sS]
        refine tk 9 undef rfl (.inr ⟨by rfl, rfl⟩) ?_
        try simp only [Act.put, gA, gS, gZ, sA, sZ, sS]
        refine tk 10 undef rfl (.inr ⟨by rfl, rfl⟩) ?_
        try simp only [Act.put, gA, gS, gZ, sA, sZ, sS]
        refine tk 11 undef rfl (.inr ⟨by rfl, rfl⟩) ?_
        try simp only [Act.put, gA, gS, gZ, sA, sZ, sS]
        refine tk 12 undef rfl (.inr ⟨by rfl, rfl⟩) ?_
        try simp only [Act.put, gA, gS, gZ, sA, sZ, sS]
        refine tk 13 (.bool false) rfl (.inl ⟨by rfl, ?_⟩) ?_
        · intro _ h; (try dsimp only at h); go_simp <;> first | decide | assumption
        try simp only [Act.put, gA, gS, gZ, sA, sZ, sS]
        refine tk 14 (.slice ba 2 bc) rfl (.inl ⟨by rfl, ?_⟩) ?_
        · intro _ h; (try dsimp only at h); go_simp <;> first | decide | assumption
        try simp only [Act.put, gA, gS, gZ, sA, sZ, sS]
        refine tk 15 (.bool false) rfl (.inl ⟨by rfl, ?_⟩) ?_
        · intro _ h; (try dsimp only at h); go_simp <;> first | decide | assumption
        try simp only [Act.put, gA, gS, gZ, sA, sZ, sS]
        refine wpAnyH_done (by kernel_rfl) ?_ _
        go_wp2_with fail
        go_ret2
        exact ⟨⟨_, rfl⟩, hHeld⟩
      | some n =>
        replace hN : (∀ w : World, Calls Tryz.prog 37 #[.string s] w fun e w' => e = .returned (.tuple #[.int .u64 (n : Int), .bool true]) ∧ w' = w) := hN
        have HN : Hid _ := hN
        clear hN
        have nm := AM n rfl
        clear AM
        by_cases hle : n ≤ 65535
        · show Calls _ _ _ _ (RefTo w (Option.map (fun n : Nat => bytesL (n : Int) 2) (if n ≤ 65535 then some n else none)))
          rw [if_pos hle]
          obtain ⟨R, HR⟩ : ∃ R, Hid (some (bytesL (n : Int) 2) = R) := ⟨_, rfl⟩
          show Calls _ _ _ _ (RefTo w (some (bytesL (n : Int) 2)))
          rw [HR.out]
          have GLE : ∀ _ : Unit, (n : Int) < 65536 := fun _ => by omega
          clear hle nm
          go_enter Tryz.func34, Tryz.ntmps34
          go_wp2_with fail
          refine (hS _).mono ?_
          rintro e w ⟨rfl, rfl⟩
          go_wp2_with fail
          refine (hK _).mono ?_
          rintro e w ⟨rfl, rfl⟩
          go_wp2_with fail
          refine (HN.out _).mono ?_
          rintro e w ⟨rfl, rfl⟩
          go_wp2_with fail
          have gle := GLE ()
          refine wp_region_held_drew (S := fun x => Below w.heap.size w x) (by kernel_rfl) (Below.drew (Below.refl _ _)) (fun hHeld => ?_)
          refine tk 0 (.int .u64 (n : Int)) rfl (.inl ⟨by rfl, ?_⟩) ?_
          · intro _ h; (try dsimp only at h); go_simp <;> first | decide | assumption
          try simp only [Act.put, gA, gS, gZ, sA, sZ, sS]
          refine tk 1 (.int .i64 2) rfl (.inl ⟨by rfl, ?_⟩) ?_
          · intro _ h; (try dsimp only at h); go_simp <;> first | decide | assumption
          try simp only [Act.put, gA, gS, gZ, sA, sZ, sS]
          refine tk 3 (.bool true) rfl (.inl ⟨by rfl, ?_⟩) ?_
          · intro _ h; (try dsimp only at h); go_simp <;> first | decide | assumption
          try simp only [Act.put, gA, gS, gZ, sA, sZ, sS]
          refine wpAnyH_ready (rs := [2]) (by kernel_rfl) (by simp) ?_
          refine AllReadyH.cons rfl (fun K' hK => ?_) AllReadyH.nil
          rw [if_pos (by rfl)]
          simp only [List.getElem_toArray, List.getElem_cons_succ, List.getElem_cons_zero]
          go_wp2_with fail
          refine (bytesD_any (n : Int) 2 _ (by decide)).mono ?_
          rintro e z ⟨⟨ba, bc, rfl, ht⟩, hbx⟩
          try go_wp2_with fail
          have hb0 := hHeld
          refine hK.out _ _ (Below.andThen hHeld hbx) (fun hHeld => ?_)
          clear hK K'
          try simp only [Act.put, gA, gS, gZ, sA, sZ, sS]
          refine tk 4 (.bool true) rfl (.inl ⟨by rfl, ?_⟩) ?_
          · intro _ h; (try dsimp only at h); go_simp <;> first | decide | assumption
          try simp only [Act.put, gA, gS, gZ, sA, sZ, sS]
          refine tk 5 (.int .i64 16) rfl (.inl ⟨by rfl, ?_⟩) ?_
          · intro _ h; (try dsimp only at h); go_simp <;> first | decide | assumption
          try simp only [Act.put, gA, gS, gZ, sA, sZ, sS]
          refine tk 6 (.bool false) rfl (.inl ⟨by rfl, ?_⟩) ?_
          · intro _ h; (try dsimp only at h); go_simp <;> first | decide | assumption
          try simp only [Act.put, gA, gS, gZ, sA, sZ, sS]
          refine tk 7 (.bool false) rfl (.inl ⟨by rfl, ?_⟩) ?_
          · intro _ h; (try dsimp only at h); go_simp <;> first | decide | assumption
          try simp only [Act.put, gA, gS, gZ, sA, sZ, sS]
          refine tk 8 (.int .u64 (n : Int)) rfl (.inl ⟨by rfl, ?_⟩) ?_
          · intro _ h; (try dsimp only at h); go_simp <;> first | decide | assumption
          try simp only [Act.put, gA, gS, gZ, sA, sZ, sS]
          refine tk 9 (.int .i64 16) rfl (.inl ⟨by rfl, ?_⟩) ?_
          · intro _ h; (try dsimp only at h); go_simp <;> first | decide | assumption
          try simp only [Act.put, gA, gS, gZ, sA, sZ, sS]
          refine tk 10 (.int .u64 65536) rfl (.inl ⟨by rfl, ?_⟩) ?_
          · intro _ h; (try dsimp only at h); go_simp <;> first | decide | assumption
          try simp only [Act.put, gA, gS, gZ, sA, sZ, sS]
          refine tk 11 (.bool true) rfl (.inl ⟨by rfl, ?_⟩) ?_
          · intro _ h; (try dsimp only at h); go_simp <;> first | decide | assumption
          try simp only [Act.put, gA, gS, gZ, sA, sZ, sS]
          refine tk 12 (.bool true) rfl (.inl ⟨by rfl, ?_⟩) ?_
          · intro _ h; (try dsimp only at h); go_simp <;> first | decide | assumption
          try simp only [Act.put, gA, gS, gZ, sA, sZ, sS]
          refine tk 13 (.bool true) rfl (.inl ⟨by rfl, ?_⟩) ?_
          · intro _ h; (try dsimp only at h); go_simp <;> first | decide | assumption
          try simp only [Act.put, gA, gS, gZ, sA, sZ, sS]
          refine tk 14 (.slice ba 2 bc) rfl (.inl ⟨by rfl, ?_⟩) ?_
          · intro _ h; (try dsimp only at h); go_simp <;> first | decide | assumption
          try simp only [Act.put, gA, gS, gZ, sA, sZ, sS]
          refine tk 15 (.bool true) rfl (.inl ⟨by rfl, ?_⟩) ?_
          · intro _ h; (try dsimp only at h); go_simp <;> first | decide | assumption
          try simp only [Act.put, gA, gS, gZ, sA, sZ, sS]
          refine wpAnyH_done (by kernel_rfl) ?_ _
          go_wp2_with fail
          go_ret2
          rw [← HR.out]
          exact ⟨⟨_, _, _, rfl, ⟨ht.row, ht.le, ht.max, fun hp => by obtain ⟨g, e1, e2, e3⟩ := ht.own hp; exact ⟨g, e1, Nat.le_trans hb0.size e2, e3⟩⟩⟩, hHeld⟩
        · show Calls _ _ _ _ (RefTo w (Option.map (fun n : Nat => bytesL (n : Int) 2) (if n ≤ 65535 then some n else none)))
          rw [if_neg hle]
          show Calls _ _ _ _ (RefTo w none)
          have GLE : ∀ _ : Unit, ¬ (n : Int) < 65536 := fun _ => by omega
          clear hle nm
          go_enter Tryz.func34, Tryz.ntmps34
          go_wp2_with fail
          refine (hS _).mono ?_
          rintro e w ⟨rfl, rfl⟩
          go_wp2_with fail
          refine (hK _).mono ?_
          rintro e w ⟨rfl, rfl⟩
          go_wp2_with fail
          refine (HN.out _).mono ?_
          rintro e w ⟨rfl, rfl⟩
          go_wp2_with fail
          have gle := GLE ()
          refine wp_region_held_drew (S := fun x => Below w.heap.size w x) (by kernel_rfl) (Below.drew (Below.refl _ _)) (fun hHeld => ?_)
          refine tk 0 (.int .u64 (n : Int)) rfl (.inl ⟨by rfl, ?_⟩) ?_
          · intro _ h; (try dsimp only at h); go_simp <;> first | decide | assumption
          try simp only [Act.put, gA, gS, gZ, sA, sZ, sS]
          refine tk 1 (.int .i64 2) rfl (.inl ⟨by rfl, ?_⟩) ?_
          · intro _ h; (try dsimp only at h); go_simp <;> first | decide | assumption
          try simp only [Act.put, gA, gS, gZ, sA, sZ, sS]
          refine tk 3 (.bool true) rfl (.inl ⟨by rfl, ?_⟩) ?_
          · intro _ h; (try dsimp only at h); go_simp <;> first | decide | assumption
          try simp only [Act.put, gA, gS, gZ, sA, sZ, sS]
          refine wpAnyH_ready (rs := [2]) (by kernel_rfl) (by simp) ?_
          refine AllReadyH.cons rfl (fun K' hK => ?_) AllReadyH.nil
          rw [if_pos (by rfl)]
          simp only [List.getElem_toArray, List.getElem_cons_succ, List.getElem_cons_zero]
          go_wp2_with fail
          refine (bytesD_any (n : Int) 2 _ (by decide)).mono ?_
          rintro e z ⟨⟨ba, bc, rfl, ht⟩, hbx⟩
          try go_wp2_with fail
          refine hK.out _ _ (Below.andThen hHeld hbx) (fun hHeld => ?_)
          clear hK K'
          try simp only [Act.put, gA, gS, gZ, sA, sZ, sS]
          refine tk 4 (.bool true) rfl (.inl ⟨by rfl, ?_⟩) ?_
          · intro _ h; (try dsimp only at h); go_simp <;> first | decide | assumption
          try simp only [Act.put, gA, gS, gZ, sA, sZ, sS]
          refine tk 5 (.int .i64 16) rfl (.inl ⟨by rfl, ?_⟩) ?_
          · intro _ h; (try dsimp only at h); go_simp <;> first | decide | assumption
          try simp only [Act.put, gA, gS, gZ, sA, sZ, sS]
          refine tk 6 (.bool false) rfl (.inl ⟨by rfl, ?_⟩) ?_
          · intro _ h; (try dsimp only at h); go_simp <;> first | decide | assumption
          try simp only [Act.put, gA, gS, gZ, sA, sZ, sS]
          refine tk 7 (.bool false) rfl (.inl ⟨by rfl, ?_⟩) ?_
          · intro _ h; (try dsimp only at h); go_simp <;> first | decide | assumption
          try simp only [Act.put, gA, gS, gZ, sA, sZ, sS]
          refine tk 8 (.int .u64 (n : Int)) rfl (.inl ⟨by rfl, ?_⟩) ?_
          · intro _ h; (try dsimp only at h); go_simp <;> first | decide | assumption
          try simp only [Act.put, gA, gS, gZ, sA, sZ, sS]
          refine tk 9 (.int .i64 16) rfl (.inl ⟨by rfl, ?_⟩) ?_
          · intro _ h; (try dsimp only at h); go_simp <;> first | decide | assumption
          try simp only [Act.put, gA, gS, gZ, sA, sZ, sS]
          refine tk 10 (.int .u64 65536) rfl (.inl ⟨by rfl, ?_⟩) ?_
          · intro _ h; (try dsimp only at h); go_simp <;> first | decide | assumption
          try simp only [Act.put, gA, gS, gZ, sA, sZ, sS]
          refine tk 11 (.bool false) rfl (.inl ⟨by rfl, ?_⟩) ?_
          · intro _ h; (try dsimp only at h); go_simp <;> first | decide | assumption
          try simp only [Act.put, gA, gS, gZ, sA, sZ, sS]
          refine tk 12 (.bool false) rfl (.inl ⟨by rfl, ?_⟩) ?_
          · intro _ h; (try dsimp only at h); go_simp <;> first | decide | assumption
          try simp only [Act.put, gA, gS, gZ, sA, sZ, sS]
          refine tk 13 (.bool false) rfl (.inl ⟨by rfl, ?_⟩) ?_
          · intro _ h; (try dsimp only at h); go_simp <;> first | decide | assumption
          try simp only [Act.put, gA, gS, gZ, sA, sZ, sS]
          refine tk 14 (.slice ba 2 bc) rfl (.inl ⟨by rfl, ?_⟩) ?_
          · intro _ h; (try dsimp only at h); go_simp <;> first | decide | assumption
          try simp only [Act.put, gA, gS, gZ, sA, sZ, sS]
          refine tk 15 (.bool false) rfl (.inl ⟨by rfl, ?_⟩) ?_
          · intro _ h; (try dsimp only at h); go_simp <;> first | decide | assumption
          try simp only [Act.put, gA, gS, gZ, sA, sZ, sS]
          refine wpAnyH_done (by kernel_rfl) ?_ _
          go_wp2_with fail
          go_ret2
          exact ⟨⟨_, rfl⟩, hHeld⟩
    · cases v with
      | none =>
        replace hN : (∀ w : World, Calls Tryz.prog 37 #[.string s] w fun e w' => e = .returned (.tuple #[.int .u64 0, .bool false]) ∧ w' = w) := hN
        have HN : Hid _ := hN
        clear hN
        show Calls _ _ _ _ (RefTo w none)
        clear AM
        go_enter Tryz.func34, Tryz.ntmps34
        go_wp2_with fail
        refine (hS _).mono ?_
        rintro e w ⟨rfl, rfl⟩
        go_wp2_with fail
        refine (hK _).mono ?_
        rintro e w ⟨rfl, rfl⟩
        go_wp2_with fail
        refine (HN.out _).mono ?_
        rintro e w ⟨rfl, rfl⟩
        go_wp2_with fail
        refine wp_region_held_drew (S := fun x => Below w.heap.size w x) (by kernel_rfl) (Below.drew (Below.refl _ _)) (fun hHeld => ?_)
        refine tk 0 (.int .u64 0) rfl (.inl ⟨by rfl, ?_⟩) ?_
        · intro _ h; (try dsimp only at h); go_simp <;> first | decide | assumption
        try simp only [Act.put, gA, gS, gZ, sA, sZ, sS]
        refine tk 1 (.int .i64 2) rfl (.inl ⟨by rfl, ?_⟩) ?_
        · intro _ h; (try dsimp only at h); go_simp <;> first | decide | assumption
        try simp only [Act.put, gA, gS, gZ, sA, sZ, sS]
        refine tk 3 (.bool false) rfl (.inl ⟨by rfl, ?_⟩) ?_
        · intro _ h; (try dsimp only at h); go_simp <;> first | decide | assumption
        try simp only [Act.put, gA, gS, gZ, sA, sZ, sS]
        refine wpAnyH_ready (rs := [2]) (by kernel_rfl) (by simp) ?_
        refine AllReadyH.cons rfl (fun K' hK => ?_) AllReadyH.nil
        rw [if_pos (by rfl)]
        simp only [List.getElem_toArray, List.getElem_cons_succ, List.getElem_cons_zero]
        go_wp2_with fail
        refine (bytesD_any 0 2 _ (by decide)).mono ?_
        rintro e z ⟨⟨ba, bc, rfl, ht⟩, hbx⟩
        try go_wp2_with fail
        refine hK.out _ _ (Below.andThen hHeld hbx) (fun hHeld => ?_)
        clear hK K'
        try simp only [Act.put, gA, gS, gZ, sA, sZ, sS]
        refine tk 4 (.bool false) rfl (.inl ⟨by rfl, ?_⟩) ?_
        · intro _ h; (try dsimp only at h); go_simp <;> first | decide | assumption
        try simp only [Act.put, gA, gS, gZ, sA, sZ, sS]
        refine tk 5 undef rfl (.inr ⟨by rfl, rfl⟩) ?_
        try simp only [Act.put, gA, gS, gZ, sA, sZ, sS]
        refine tk 6 undef rfl (.inr ⟨by rfl, rfl⟩) ?_
        try simp only [Act.put, gA, gS, gZ, sA, sZ, sS]
        refine tk 7 undef rfl (.inr ⟨by rfl, rfl⟩) ?_
        try simp only [Act.put, gA, gS, gZ, sA, sZ, sS]
        refine tk 8 undef rfl (.inr ⟨by rfl, rfl⟩) ?_
        try simp only [Act.put, gA, gS, gZ, sA, sZ, sS]
        refine tk 9 undef rfl (.inr ⟨by rfl, rfl⟩) ?_
        try simp only [Act.put, gA, gS, gZ, sA, sZ, sS]
        refine tk 10 undef rfl (.inr ⟨by rfl, rfl⟩) ?_
        try simp only [Act.put, gA, gS, gZ, sA, sZ, sS]
        refine tk 11 undef rfl (.inr ⟨by rfl, rfl⟩) ?_
        try simp only [Act.put, gA, gS, gZ, sA, sZ, sS]
        refine tk 12 undef rfl (.inr ⟨by rfl, rfl⟩) ?_
        try simp only [Act.put, gA, gS, gZ, sA, sZ, sS]
        refine tk 13 (.bool false) rfl (.inl ⟨by rfl, ?_⟩) ?_
        · intro _ h; (try dsimp only at h); go_simp <;> first | decide | assumption
        try simp only [Act.put, gA, gS, gZ, sA, sZ, sS]
        refine tk 14 (.slice ba 2 bc) rfl (.inl ⟨by rfl, ?_⟩) ?_
        · intro _ h; (try dsimp only at h); go_simp <;> first | decide | assumption
        try simp only [Act.put, gA, gS, gZ, sA, sZ, sS]
        refine tk 15 (.bool false) rfl (.inl ⟨by rfl, ?_⟩) ?_
        · intro _ h; (try dsimp only at h); go_simp <;> first | decide | assumption
        try simp only [Act.put, gA, gS, gZ, sA, sZ, sS]
        refine wpAnyH_done (by kernel_rfl) ?_ _
        go_wp2_with fail
        go_ret2
        exact ⟨⟨_, rfl⟩, hHeld⟩
      | some n =>
        replace hN : (∀ w : World, Calls Tryz.prog 37 #[.string s] w fun e w' => e = .returned (.tuple #[.int .u64 (n : Int), .bool true]) ∧ w' = w) := hN
        have HN : Hid _ := hN
        clear hN
        have nm := AM n rfl
        clear AM
        by_cases hle : n ≤ 65535
        · show Calls _ _ _ _ (RefTo w (Option.map (fun n : Nat => bytesL (n : Int) 2) (if n ≤ 65535 then some n else none)))
          rw [if_pos hle]
          obtain ⟨R, HR⟩ : ∃ R, Hid (some (bytesL (n : Int) 2) = R) := ⟨_, rfl⟩
          show Calls _ _ _ _ (RefTo w (some (bytesL (n : Int) 2)))
          rw [HR.out]
          have GLE : ∀ _ : Unit, (n : Int) < 65536 := fun _ => by omega
          clear hle nm
          go_enter Tryz.func34, Tryz.ntmps34
          go_wp2_with fail
          refine (hS _).mono ?_
          rintro e w ⟨rfl, rfl⟩
          go_wp2_with fail
          refine (hK _).mono ?_
          rintro e w ⟨rfl, rfl⟩
          go_wp2_with fail
          refine (HN.out _).mono ?_
          rintro e w ⟨rfl, rfl⟩
          go_wp2_with fail
          have gle := GLE ()
          refine wp_region_held_drew (S := fun x => Below w.heap.size w x) (by kernel_rfl) (Below.drew (Below.refl _ _)) (fun hHeld => ?_)
          refine tk 0 (.int .u64 (n : Int)) rfl (.inl ⟨by rfl, ?_⟩) ?_
          · intro _ h; (try dsimp only at h); go_simp <;> first | decide | assumption
          try simp only [Act.put, gA, gS, gZ, sA, sZ, sS]
          refine tk 1 (.int .i64 2) rfl (.inl ⟨by rfl, ?_⟩) ?_
          · intro _ h; (try dsimp only at h); go_simp <;> first | decide | assumption
          try simp only [Act.put, gA, gS, gZ, sA, sZ, sS]
          refine tk 3 (.bool true) rfl (.inl ⟨by rfl, ?_⟩) ?_
          · intro _ h; (try dsimp only at h); go_simp <;> first | decide | assumption
          try simp only [Act.put, gA, gS, gZ, sA, sZ, sS]
          refine wpAnyH_ready (rs := [2]) (by kernel_rfl) (by simp) ?_
          refine AllReadyH.cons rfl (fun K' hK => ?_) AllReadyH.nil
          rw [if_pos (by rfl)]
          simp only [List.getElem_toArray, List.getElem_cons_succ, List.getElem_cons_zero]
          go_wp2_with fail
          refine (bytesD_any (n : Int) 2 _ (by decide)).mono ?_
          rintro e z ⟨⟨ba, bc, rfl, ht⟩, hbx⟩
          try go_wp2_with fail
          have hb0 := hHeld
          refine hK.out _ _ (Below.andThen hHeld hbx) (fun hHeld => ?_)
          clear hK K'
          try simp only [Act.put, gA, gS, gZ, sA, sZ, sS]
          refine tk 4 (.bool true) rfl (.inl ⟨by rfl, ?_⟩) ?_
          · intro _ h; (try dsimp only at h); go_simp <;> first | decide | assumption
          try simp only [Act.put, gA, gS, gZ, sA, sZ, sS]
          refine tk 5 (.int .i64 16) rfl (.inl ⟨by rfl, ?_⟩) ?_
          · intro _ h; (try dsimp only at h); go_simp <;> first | decide | assumption
          try simp only [Act.put, gA, gS, gZ, sA, sZ, sS]
          refine tk 6 (.bool false) rfl (.inl ⟨by rfl, ?_⟩) ?_
          · intro _ h; (try dsimp only at h); go_simp <;> first | decide | assumption
          try simp only [Act.put, gA, gS, gZ, sA, sZ, sS]
          refine tk 7 (.bool false) rfl (.inl ⟨by rfl, ?_⟩) ?_
          · intro _ h; (try dsimp only at h); go_simp <;> first | decide | assumption
          try simp only [Act.put, gA, gS, gZ, sA, sZ, sS]
          refine tk 8 (.int .u64 (n : Int)) rfl (.inl ⟨by rfl, ?_⟩) ?_
          · intro _ h; (try dsimp only at h); go_simp <;> first | decide | assumption
          try simp only [Act.put, gA, gS, gZ, sA, sZ, sS]
          refine tk 9 (.int .i64 16) rfl (.inl ⟨by rfl, ?_⟩) ?_
          · intro _ h; (try dsimp only at h); go_simp <;> first | decide | assumption
          try simp only [Act.put, gA, gS, gZ, sA, sZ, sS]
          refine tk 10 (.int .u64 65536) rfl (.inl ⟨by rfl, ?_⟩) ?_
          · intro _ h; (try dsimp only at h); go_simp <;> first | decide | assumption
          try simp only [Act.put, gA, gS, gZ, sA, sZ, sS]
          refine tk 11 (.bool true) rfl (.inl ⟨by rfl, ?_⟩) ?_
          · intro _ h; (try dsimp only at h); go_simp <;> first | decide | assumption
          try simp only [Act.put, gA, gS, gZ, sA, sZ, sS]
          refine tk 12 (.bool true) rfl (.inl ⟨by rfl, ?_⟩) ?_
          · intro _ h; (try dsimp only at h); go_simp <;> first | decide | assumption
          try simp only [Act.put, gA, gS, gZ, sA, sZ, sS]
          refine tk 13 (.bool true) rfl (.inl ⟨by rfl, ?_⟩) ?_
          · intro _ h; (try dsimp only at h); go_simp <;> first | decide | assumption
          try simp only [Act.put, gA, gS, gZ, sA, sZ, sS]
          refine tk 14 (.slice ba 2 bc) rfl (.inl ⟨by rfl, ?_⟩) ?_
          · intro _ h; (try dsimp only at h); go_simp <;> first | decide | assumption
          try simp only [Act.put, gA, gS, gZ, sA, sZ, sS]
          refine tk 15 (.bool true) rfl (.inl ⟨by rfl, ?_⟩) ?_
          · intro _ h; (try dsimp only at h); go_simp <;> first | decide | assumption
          try simp only [Act.put, gA, gS, gZ, sA, sZ, sS]
          refine wpAnyH_done (by kernel_rfl) ?_ _
          go_wp2_with fail
          go_ret2
          rw [← HR.out]
          exact ⟨⟨_, _, _, rfl, ⟨ht.row, ht.le, ht.max, fun hp => by obtain ⟨g, e1, e2, e3⟩ := ht.own hp; exact ⟨g, e1, Nat.le_trans hb0.size e2, e3⟩⟩⟩, hHeld⟩
        · show Calls _ _ _ _ (RefTo w (Option.map (fun n : Nat => bytesL (n : Int) 2) (if n ≤ 65535 then some n else none)))
          rw [if_neg hle]
          show Calls _ _ _ _ (RefTo w none)
          have GLE : ∀ _ : Unit, ¬ (n : Int) < 65536 := fun _ => by omega
          clear hle nm
          go_enter Tryz.func34, Tryz.ntmps34
          go_wp2_with fail
          refine (hS _).mono ?_
          rintro e w ⟨rfl, rfl⟩
          go_wp2_with fail
          refine (hK _).mono ?_
          rintro e w ⟨rfl, rfl⟩
          go_wp2_with fail
          refine (HN.out _).mono ?_
          rintro e w ⟨rfl, rfl⟩
          go_wp2_with fail
          have gle := GLE ()
          refine wp_region_held_drew (S := fun x => Below w.heap.size w x) (by kernel_rfl) (Below.drew (Below.refl _ _)) (fun hHeld => ?_)
          refine tk 0 (.int .u64 (n : Int)) rfl (.inl ⟨by rfl, ?_⟩) ?_
          · intro _ h; (try dsimp only at h); go_simp <;> first | decide | assumption
          try simp only [Act.put, gA, gS, gZ, sA, sZ, sS]
          refine tk 1 (.int .i64 2) rfl (.inl ⟨by rfl, ?_⟩) ?_
          · intro _ h; (try dsimp only at h); go_simp <;> first | decide | assumption
          try simp only [Act.put, gA, gS, gZ, sA, sZ, sS]
          refine tk 3 (.bool true) rfl (.inl ⟨by rfl, ?_⟩) ?_
          · intro _ h; (try dsimp only at h); go_simp <;> first | decide | assumption
          try simp only [Act.put, gA, gS, gZ, sA, sZ, sS]
          refine wpAnyH_ready (rs := [2]) (by kernel_rfl) (by simp) ?_
          refine AllReadyH.cons rfl (fun K' hK => ?_) AllReadyH.nil
          rw [if_pos (by rfl)]
          simp only [List.getElem_toArray, List.getElem_cons_succ, List.getElem_cons_zero]
          go_wp2_with fail
          refine (bytesD_any (n : Int) 2 _ (by decide)).mono ?_
          rintro e z ⟨⟨ba, bc, rfl, ht⟩, hbx⟩
          try go_wp2_with fail
          refine hK.out _ _ (Below.andThen hHeld hbx) (fun hHeld => ?_)
          clear hK K'
          try simp only [Act.put, gA, gS, gZ, sA, sZ, sS]
          refine tk 4 (.bool true) rfl (.inl ⟨by rfl, ?_⟩) ?_
          · intro _ h; (try dsimp only at h); go_simp <;> first | decide | assumption
          try simp only [Act.put, gA, gS, gZ, sA, sZ, sS]
          refine tk 5 (.int .i64 16) rfl (.inl ⟨by rfl, ?_⟩) ?_
          · intro _ h; (try dsimp only at h); go_simp <;> first | decide | assumption
          try simp only [Act.put, gA, gS, gZ, sA, sZ, sS]
          refine tk 6 (.bool false) rfl (.inl ⟨by rfl, ?_⟩) ?_
          · intro _ h; (try dsimp only at h); go_simp <;> first | decide | assumption
          try simp only [Act.put, gA, gS, gZ, sA, sZ, sS]
          refine tk 7 (.bool false) rfl (.inl ⟨by rfl, ?_⟩) ?_
          · intro _ h; (try dsimp only at h); go_simp <;> first | decide | assumption
          try simp only [Act.put, gA, gS, gZ, sA, sZ, sS]
          refine tk 8 (.int .u64 (n : Int)) rfl (.inl ⟨by rfl, ?_⟩) ?_
          · intro _ h; (try dsimp only at h); go_simp <;> first | decide | assumption
          try simp only [Act.put, gA, gS, gZ, sA, sZ, sS]
          refine tk 9 (.int .i64 16) rfl (.inl ⟨by rfl, ?_⟩) ?_
          · intro _ h; (try dsimp only at h); go_simp <;> first | decide | assumption
          try simp only [Act.put, gA, gS, gZ, sA, sZ, sS]
          refine tk 10 (.int .u64 65536) rfl (.inl ⟨by rfl, ?_⟩) ?_
          · intro _ h; (try dsimp only at h); go_simp <;> first | decide | assumption
          try simp only [Act.put, gA, gS, gZ, sA, sZ, sS]
          refine tk 11 (.bool false) rfl (.inl ⟨by rfl, ?_⟩) ?_
          · intro _ h; (try dsimp only at h); go_simp <;> first | decide | assumption
          try simp only [Act.put, gA, gS, gZ, sA, sZ, sS]
          refine tk 12 (.bool false) rfl (.inl ⟨by rfl, ?_⟩) ?_
          · intro _ h; (try dsimp only at h); go_simp <;> first | decide | assumption
          try simp only [Act.put, gA, gS, gZ, sA, sZ, sS]
          refine tk 13 (.bool false) rfl (.inl ⟨by rfl, ?_⟩) ?_
          · intro _ h; (try dsimp only at h); go_simp <;> first | decide | assumption
          try simp only [Act.put, gA, gS, gZ, sA, sZ, sS]
          refine tk 14 (.slice ba 2 bc) rfl (.inl ⟨by rfl, ?_⟩) ?_
          · intro _ h; (try dsimp only at h); go_simp <;> first | decide | assumption
          try simp only [Act.put, gA, gS, gZ, sA, sZ, sS]
          refine tk 15 (.bool false) rfl (.inl ⟨by rfl, ?_⟩) ?_
          · intro _ h; (try dsimp only at h); go_simp <;> first | decide | assumption
          try simp only [Act.put, gA, gS, gZ, sA, sZ, sS]
          refine wpAnyH_done (by kernel_rfl) ?_ _
          go_wp2_with fail
          go_ret2
          exact ⟨⟨_, rfl⟩, hHeld⟩

set_option linter.unusedSimpArgs false in
set_option maxHeartbeats 4000000 in
set_option maxRecDepth 100000 in
theorem wholeU3 (t : Int) (l : List UInt8) (w : World) (hk : kindN t = 3) (hs : sizeN t = 3) (hl : l.length ≤ 1000000) :
    Calls Tryz.prog 34 #[.int .u8 t, .string (str l)] w (RefTo w (intV t l)) := by
  have hlt : letN t = 117 := by unfold letN; rw [hk]; rfl
  have hS := fun w => refSize_any t w
  have hK := fun w => refKind_any t w
  rw [hs] at hS
  rw [hlt] at hK
  have hN := fun w => refNumberD_any l w hl
  have hH := fun w => hexD_any (l.drop 2) w
  have IV : Hid (intV t l = ((anyU l).bind fun n => if n ≤ 16777215 then some n else none).map fun n : Nat => bytesL (n : Int) 3) := by
    show _ = _
    rw [uns_int t l 3 hs hk]
    rw [show (2 ^ (8 * 3) - 1 : Nat) = 16777215 from rfl, unsV_any 16777215 (by decide) l]
    generalize ((anyU l).bind fun n => if n ≤ 16777215 then some n else none) = o
    cases o <;> rfl
  have SF := slice_from l 2
  have ST : 2 ≤ l.length → ∀ w : World, (Instr.slice 9 (.string (str l)) none (some (.int .i64 2)) none).run Tryz.prog w = .ok (.string (str (l.take 2))) w := fun hk w => by
    have hs : (str l).size = l.length := by unfold str; simp [ByteArray.size]
    rw [run_slice_string_h (P := Tryz.prog) w 9 (str l) Tryz.underlying9 .i64 _ (by omega) (by rw [hs]; omega)]
    congr 2
    apply ByteArray.ext
    simp [str, ByteArray.data_extract]
  obtain ⟨s, HSL, htl, hsz, _⟩ := str_facts l
  rw [HSL.out] at hN SF ST ⊢
  rw [IV.out]
  have AM := fun n h => anyU_max l n h
  by_cases hx : Lib.hasPrefix l [48, 120] = true ∧ 2 < l.length
  · have hA : anyU l = hexV (l.drop 2) := by unfold anyU; rw [if_pos hx]
    rw [hA] at AM ⊢
    have g2 : (2 : Int) < (l.length : Int) := by omega
    have sf := SF (by omega)
    have st := ST (by omega)
    have t2 : l.take 2 = [48, 120] := by have := hx.1; rw [pfx2 l hx.2] at this; simpa using this
    rw [t2] at st
    have st' : ∀ w : World, (Instr.slice 9 (.string s) none (some (.int .i64 2)) none).run Tryz.prog w = .ok (.string ⟨#[48, 120]⟩) w := st
    have sf' : ∀ w : World, (Instr.slice 9 (.string s) (some (.int .i64 2)) none none).run Tryz.prog w = .ok (.string (str (l.drop 2))) w := sf
    clear SF ST st sf t2 hA hx IV
    generalize str (l.drop 2) = sx at *
    generalize hexV (l.drop 2) = v at *
    generalize decV 18446744073709551615 l = v0 at *
    obtain ⟨n0, b0, HN⟩ : ∃ (n0 : Int) (b0 : Bool), Hid (∀ w : World, Calls Tryz.prog 37 #[.string s] w fun e w' => e = .returned (.tuple #[.int .u64 n0, .bool b0]) ∧ w' = w) := by cases v0 with | none => exact ⟨_, _, hN⟩ | some m => exact ⟨_, _, hN⟩
    clear hN
    cases v with
    | none =>
      replace hH : (∀ w : World, Calls Tryz.prog 40 #[.string sx] w fun e w' => e = .returned (.tuple #[.int .u64 0, .bool false]) ∧ w' = w) := hH
      show Calls _ _ _ _ (RefTo w none)
      clear AM
      go_enter Tryz.func34, Tryz.ntmps34
      go_wp2_with fail
      refine (hS _).mono ?_
      rintro e w ⟨rfl, rfl⟩
      go_wp2_with fail
      refine (hK _).mono ?_
      rintro e w ⟨rfl, rfl⟩
      go_wp2_with fail
      refine (HN.out _).mono ?_
      rintro e w ⟨rfl, rfl⟩
      go_wp2_with fail
      refine (hH _).mono ?_
      rintro e w ⟨rfl, rfl⟩
      go_wp2_with fail
      refine wp_region_held_drew (S := fun x => Below w.heap.size w x) (by kernel_rfl) (Below.drew (Below.refl _ _)) (fun hHeld => ?_)
      refine tk 0 (.int .u64 0) rfl (.inl ⟨by rfl, ?_⟩) ?_
      · intro _ h; (try dsimp only at h); go_simp <;> first | decide | assumption
      try simp only [Act.put, gA, gS, gZ, sA, sZ, sS]
      refine tk 1 (.int .i64 3) rfl (.inl ⟨by rfl, ?_⟩) ?_
      · intro _ h; (try dsimp only at h); go_simp <;> first | decide | assumption
      try simp only [Act.put, gA, gS, gZ, sA, sZ, sS]
      refine tk 3 (.bool false) rfl (.inl ⟨by rfl, ?_⟩) ?_
      · intro _ h; (try dsimp only at h); go_simp <;> first | decide | assumption
      try simp only [Act.put, gA, gS, gZ, sA, sZ, sS]
      refine wpAnyH_ready (rs := [2]) (by kernel_rfl) (by simp) ?_
      refine AllReadyH.cons rfl (fun K' hK => ?_) AllReadyH.nil
      rw [if_pos (by rfl)]
      simp only [List.getElem_toArray, List.getElem_cons_succ, List.getElem_cons_zero]
      go_wp2_with fail
      refine (bytesD_any 0 3 _ (by decide)).mono ?_
      rintro e z ⟨⟨ba, bc, rfl, ht⟩, hbx⟩
      try go_wp2_with fail
      refine hK.out _ _ (Below.andThen hHeld hbx) (fun hHeld => ?_)
      clear hK K'
      try simp only [Act.put, gA, gS, gZ, sA, sZ, sS]
      refine tk 4 (.bool false) rfl (.inl ⟨by rfl, ?_⟩) ?_
      · intro _ h; (try dsimp only at h); go_simp <;> first | decide | assumption
      try simp only [Act.put, gA, gS, gZ, sA, sZ, sS]
      refine tk 5 undef rfl (.inr ⟨by rfl, rfl⟩) ?_
      try simp only [Act.put, gA, gS, gZ, sA, sZ, sS]
      refine tk 6 undef rfl (.inr ⟨by rfl, rfl⟩) ?_
      try simp only [Act.put, gA, gS, gZ, sA, sZ, sS]
      refine tk 7 undef rfl (.inr ⟨by rfl, rfl⟩) ?_
      try simp only [Act.put, gA, gS, gZ, sA, sZ, sS]
      refine tk 8 undef rfl (.inr ⟨by rfl, rfl⟩) ?_
      try simp only [Act.put, gA, gS, gZ, sA, sZ, sS]
      refine tk 9 undef rfl (.inr ⟨by rfl, rfl⟩) ?_
      try simp only [Act.put, gA, gS, gZ, sA, sZ, sS]
      refine tk 10 undef rfl (.inr ⟨by rfl, rfl⟩) ?_
      try simp only [Act.put, gA, gS, gZ, sA, sZ, sS]
      refine tk 11 undef rfl (.inr ⟨by rfl, rfl⟩) ?_
      try simp only [Act.put, gA, gS, gZ, sA, sZ, sS]
      refine tk 12 undef rfl (.inr ⟨by rfl, rfl⟩) ?_
      try simp only [Act.put, gA, gS, gZ, sA, sZ, sS]
      refine tk 13 (.bool false) rfl (.inl ⟨by rfl, ?_⟩) ?_
      · intro _ h; (try dsimp only at h); go_simp <;> first | decide | assumption
      try simp only [Act.put, gA, gS, gZ, sA, sZ, sS]
      refine tk 14 (.slice ba 3 bc) rfl (.inl ⟨by rfl, ?_⟩) ?_
      · intro _ h; (try dsimp only at h); go_simp <;> first | decide | assumption
      try simp only [Act.put, gA, gS, gZ, sA, sZ, sS]
      refine tk 15 (.bool false) rfl (.inl ⟨by rfl, ?_⟩) ?_
      · intro _ h; (try dsimp only at h); go_simp <;> first | decide | assumption
      try simp only [Act.put, gA, gS, gZ, sA, sZ, sS]
      refine wpAnyH_done (by kernel_rfl) ?_ _
      go_wp2_with fail
      go_ret2
      exact ⟨⟨_, rfl⟩, hHeld⟩
    | some n =>
      replace hH : (∀ w : World, Calls Tryz.prog 40 #[.string sx] w fun e w' => e = .returned (.tuple #[.int .u64 (n : Int), .bool true]) ∧ w' = w) := hH
      have nm := AM n rfl
      clear AM
      by_cases hle : n ≤ 16777215
      · show Calls _ _ _ _ (RefTo w (Option.map (fun n : Nat => bytesL (n : Int) 3) (if n ≤ 16777215 then some n else none)))
        rw [if_pos hle]
        obtain ⟨R, HR⟩ : ∃ R, Hid (some (bytesL (n : Int) 3) = R) := ⟨_, rfl⟩
        show Calls _ _ _ _ (RefTo w (some (bytesL (n : Int) 3)))
        rw [HR.out]
        have GLE : ∀ _ : Unit, (n : Int) < 16777216 := fun _ => by omega
        clear hle nm
        go_enter Tryz.func34, Tryz.ntmps34
        go_wp2_with fail
        refine (hS _).mono ?_
        rintro e w ⟨rfl, rfl⟩
        go_wp2_with fail
        refine (hK _).mono ?_
        rintro e w ⟨rfl, rfl⟩
        go_wp2_with fail
        refine (HN.out _).mono ?_
        rintro e w ⟨rfl, rfl⟩
        go_wp2_with fail
        refine (hH _).mono ?_
        rintro e w ⟨rfl, rfl⟩
        go_wp2_with fail
        have gle := GLE ()
        refine wp_region_held_drew (S := fun x => Below w.heap.size w x) (by kernel_rfl) (Below.drew (Below.refl _ _)) (fun hHeld => ?_)
        refine tk 0 (.int .u64 (n : Int)) rfl (.inl ⟨by rfl, ?_⟩) ?_
        · intro _ h; (try dsimp only at h); go_simp <;> first | decide | assumption
        try simp only [Act.put, gA, gS, gZ, sA, sZ, sS]
        refine tk 1 (.int .i64 3) rfl (.inl ⟨by rfl, ?_⟩) ?_
        · intro _ h; (try dsimp only at h); go_simp <;> first | decide | assumption
        try simp only [Act.put, gA, gS, gZ, sA, sZ, sS]
        refine tk 3 (.bool true) rfl (.inl ⟨by rfl, ?_⟩) ?_
        · intro _ h; (try dsimp only at h); go_simp <;> first | decide | assumption
        try simp only [Act.put, gA, gS, gZ, sA, sZ, sS]
        refine wpAnyH_ready (rs := [2]) (by kernel_rfl) (by simp) ?_
        refine AllReadyH.cons rfl (fun K' hK => ?_) AllReadyH.nil
        rw [if_pos (by rfl)]
        simp only [List.getElem_toArray, List.getElem_cons_succ, List.getElem_cons_zero]
        go_wp2_with fail
        refine (bytesD_any (n : Int) 3 _ (by decide)).mono ?_
        rintro e z ⟨⟨ba, bc, rfl, ht⟩, hbx⟩
        try go_wp2_with fail
        have hb0 := hHeld
        refine hK.out _ _ (Below.andThen hHeld hbx) (fun hHeld => ?_)
        clear hK K'
        try simp only [Act.put, gA, gS, gZ, sA, sZ, sS]
        refine tk 4 (.bool true) rfl (.inl ⟨by rfl, ?_⟩) ?_
        · intro _ h; (try dsimp only at h); go_simp <;> first | decide | assumption
        try simp only [Act.put, gA, gS, gZ, sA, sZ, sS]
        refine tk 5 (.int .i64 24) rfl (.inl ⟨by rfl, ?_⟩) ?_
        · intro _ h; (try dsimp only at h); go_simp <;> first | decide | assumption
        try simp only [Act.put, gA, gS, gZ, sA, sZ, sS]
        refine tk 6 (.bool false) rfl (.inl ⟨by rfl, ?_⟩) ?_
        · intro _ h; (try dsimp only at h); go_simp <;> first | decide | assumption
        try simp only [Act.put, gA, gS, gZ, sA, sZ, sS]
        refine tk 7 (.bool false) rfl (.inl ⟨by rfl, ?_⟩) ?_
        · intro _ h; (try dsimp only at h); go_simp <;> first | decide | assumption
        try simp only [Act.put, gA, gS, gZ, sA, sZ, sS]
        refine tk 8 (.int .u64 (n : Int)) rfl (.inl ⟨by rfl, ?_⟩) ?_
        · intro _ h; (try dsimp only at h); go_simp <;> first | decide | assumption
        try simp only [Act.put, gA, gS, gZ, sA, sZ, sS]
        refine tk 9 (.int .i64 24) rfl (.inl ⟨by rfl, ?_⟩) ?_
        · intro _ h; (try dsimp only at h); go_simp <;> first | decide | assumption
        try simp only [Act.put, gA, gS, gZ, sA, sZ, sS]
        refine tk 10 (.int .u64 16777216) rfl (.inl ⟨by rfl, ?_⟩) ?_
        · intro _ h; (try dsimp only at h); go_simp <;> first | decide | assumption
        try simp only [Act.put, gA, gS, gZ, sA, sZ, sS]
        refine tk 11 (.bool true) rfl (.inl ⟨by rfl, ?_⟩) ?_
        · intro _ h; (try dsimp only at h); go_simp <;> first | decide | assumption
        try simp only [Act.put, gA, gS, gZ, sA, sZ, sS]
        refine tk 12 (.bool true) rfl (.inl ⟨by rfl, ?_⟩) ?_
        · intro _ h; (try dsimp only at h); go_simp <;> first | decide | assumption
        try simp only [Act.put, gA, gS, gZ, sA, sZ, sS]
        refine tk 13 (.bool true) rfl (.inl ⟨by rfl, ?_⟩) ?_
        · intro _ h; (try dsimp only at h); go_simp <;> first | decide | assumption
        try simp only [Act.put, gA, gS, gZ, sA, sZ, sS]
        refine tk 14 (.slice ba 3 bc) rfl (.inl ⟨by rfl, ?_⟩) ?_
        · intro _ h; (try dsimp only at h); go_simp <;> first | decide | assumption
        try simp only [Act.put, gA, gS, gZ, sA, sZ, sS]
        refine tk 15 (.bool true) rfl (.inl ⟨by rfl, ?_⟩) ?_
        · intro _ h; (try dsimp only at h); go_simp <;> first | decide | assumption
        try simp only [Act.put, gA, gS, gZ, sA, sZ, sS]
        refine wpAnyH_done (by kernel_rfl) ?_ _
        go_wp2_with fail
        go_ret2
        rw [← HR.out]
        exact ⟨⟨_, _, _, rfl, ⟨ht.row, ht.le, ht.max, fun hp => by obtain ⟨g, e1, e2, e3⟩ := ht.own hp; exact ⟨g, e1, Nat.le_trans hb0.size e2, e3⟩⟩⟩, hHeld⟩
      · show Calls _ _ _ _ (RefTo w (Option.map (fun n : Nat => bytesL (n : Int) 3) (if n ≤ 16777215 then some n else none)))
        rw [if_neg hle]
        show Calls _ _ _ _ (RefTo w none)
        have GLE : ∀ _ : Unit, ¬ (n : Int) < 16777216 := fun _ => by omega
        clear hle nm
        go_enter Tryz.func34, Tryz.ntmps34
        go_wp2_with fail
        refine (hS _).mono ?_
        rintro e w ⟨rfl, rfl⟩
        go_wp2_with fail
        refine (hK _).mono ?_
        rintro e w ⟨rfl, rfl⟩
        go_wp2_with fail
        refine (HN.out _).mono ?_
        rintro e w ⟨rfl, rfl⟩
        go_wp2_with fail
        refine (hH _).mono ?_
        rintro e w ⟨rfl, rfl⟩
        go_wp2_with fail
        have gle := GLE ()
        refine wp_region_held_drew (S := fun x => Below w.heap.size w x) (by kernel_rfl) (Below.drew (Below.refl _ _)) (fun hHeld => ?_)
        refine tk 0 (.int .u64 (n : Int)) rfl (.inl ⟨by rfl, ?_⟩) ?_
        · intro _ h; (try dsimp only at h); go_simp <;> first | decide | assumption
        try simp only [Act.put, gA, gS, gZ, sA, sZ, sS]
        refine tk 1 (.int .i64 3) rfl (.inl ⟨by rfl, ?_⟩) ?_
        · intro _ h; (try dsimp only at h); go_simp <;> first | decide | assumption
        try simp only [Act.put, gA, gS, gZ, sA, sZ, sS]
        refine tk 3 (.bool true) rfl (.inl ⟨by rfl, ?_⟩) ?_
        · intro _ h; (try dsimp only at h); go_simp <;> first | decide | assumption
        try simp only [Act.put, gA, gS, gZ, sA, sZ, sS]
        refine wpAnyH_ready (rs := [2]) (by kernel_rfl) (by simp) ?_
        refine AllReadyH.cons rfl (fun K' hK => ?_) AllReadyH.nil
        rw [if_pos (by rfl)]
        simp only [List.getElem_toArray, List.getElem_cons_succ, List.getElem_cons_zero]
        go_wp2_with fail
        refine (bytesD_any (n : Int) 3 _ (by decide)).mono ?_
        rintro e z ⟨⟨ba, bc, rfl, ht⟩, hbx⟩
        try go_wp2_with fail
        refine hK.out _ _ (Below.andThen hHeld hbx) (fun hHeld => ?_)
        clear hK K'
        try simp only [Act.put, gA, gS, gZ, sA, sZ, sS]
        refine tk 4 (.bool true) rfl (.inl ⟨by rfl, ?_⟩) ?_
        · intro _ h; (try dsimp only at h); go_simp <;> first | decide | assumption
        try simp only [Act.put, gA, gS, gZ, sA, sZ, sS]
        refine tk 5 (.int .i64 24) rfl (.inl ⟨by rfl, ?_⟩) ?_
        · intro _ h; (try dsimp only at h); go_simp <;> first | decide | assumption
        try simp only [Act.put, gA, gS, gZ, sA, sZ, sS]
        refine tk 6 (.bool false) rfl (.inl ⟨by rfl, ?_⟩) ?_
        · intro _ h; (try dsimp only at h); go_simp <;> first | decide | assumption
        try simp only [Act.put, gA, gS, gZ, sA, sZ, sS]
        refine tk 7 (.bool false) rfl (.inl ⟨by rfl, ?_⟩) ?_
        · intro _ h; (try dsimp only at h); go_simp <;> first | decide | assumption
        try simp only [Act.put, gA, gS, gZ, sA, sZ, sS]
        refine tk 8 (.int .u64 (n : Int)) rfl (.inl ⟨by rfl, ?_⟩) ?_
        · intro _ h; (try dsimp only at h); go_simp <;> first | decide | assumption
        try simp only [Act.put, gA, gS, gZ, sA, sZ, sS]
        refine tk 9 (.int .i64 24) rfl (.inl ⟨by rfl, ?_⟩) ?_
        · intro _ h; (try dsimp only at h); go_simp <;> first | decide | assumption
        try simp only [Act.put, gA, gS, gZ, sA, sZ, sS]
        refine tk 10 (.int .u64 16777216) rfl (.inl ⟨by rfl, ?_⟩) ?_
        · intro _ h; (try dsimp only at h); go_simp <;> first | decide | assumption
        try simp only [Act.put, gA, gS, gZ, sA, sZ, sS]
        refine tk 11 (.bool false) rfl (.inl ⟨by rfl, ?_⟩) ?_
        · intro _ h; (try dsimp only at h); go_simp <;> first | decide | assumption
        try simp only [Act.put, gA, gS, gZ, sA, sZ, sS]
        refine tk 12 (.bool false) rfl (.inl ⟨by rfl, ?_⟩) ?_
        · intro _ h; (try dsimp only at h); go_simp <;> first | decide | assumption
        try simp only [Act.put, gA, gS, gZ, sA, sZ, sS]
        refine tk 13 (.bool false) rfl (.inl ⟨by rfl, ?_⟩) ?_
        · intro _ h; (try dsimp only at h); go_simp <;> first | decide | assumption
        try simp only [Act.put, gA, gS, gZ, sA, sZ, sS]
        refine tk 14 (.slice ba 3 bc) rfl (.inl ⟨by rfl, ?_⟩) ?_
        · intro _ h; (try dsimp only at h); go_simp <;> first | decide | assumption
        try simp only [Act.put, gA, gS, gZ, sA, sZ, sS]
        refine tk 15 (.bool false) rfl (.inl ⟨by rfl, ?_⟩) ?_
        · intro _ h; (try dsimp only at h); go_simp <;> first | decide | assumption
        try simp only [Act.put, gA, gS, gZ, sA, sZ, sS]
        refine wpAnyH_done (by kernel_rfl) ?_ _
        go_wp2_with fail
        go_ret2
        exact ⟨⟨_, rfl⟩, hHeld⟩
  · have hA : anyU l = decV 18446744073709551615 l := by unfold anyU; rw [if_neg hx]
    rw [hA] at AM ⊢
    have ways : (¬ (2 : Int) < (l.length : Int)) ∨ ((2 : Int) < (l.length : Int) ∧ ∃ q : ByteArray, (∀ w : World, (Instr.slice 9 (.string s) none (some (.int .i64 2)) none).run Tryz.prog w = .ok (.string q) w) ∧ (q.toList == [48, 120]) = false) := by
      by_cases h2 : 2 < l.length
      · refine .inr ⟨by omega, str (l.take 2), ST (by omega), ?_⟩
        rw [show (str (l.take 2)).toList = l.take 2 from by rw [Lib.toList_data]; rfl, ← pfx2 l h2]
        have : ¬ Lib.hasPrefix l [48, 120] = true := fun h => hx ⟨h, h2⟩
        simpa using this
      · exact .inl (by omega)
    clear SF ST hA hx hH IV
    generalize decV 18446744073709551615 l = v at *
    rcases ways with g2 | ⟨g2, q, st, nq⟩
    · cases v with
      | none =>
        replace hN : (∀ w : World, Calls Tryz.prog 37 #[.string s] w fun e w' => e = .returned (.tuple #[.int .u64 0, .bool false]) ∧ w' = w) := hN
        have HN : Hid _ := hN
        clear hN
        show Calls _ _ _ _ (RefTo w none)
        clear AM
        go_enter Tryz.func34, Tryz.ntmps34
        go_wp2_with fail
        refine (hS _).mono ?_
        rintro e w ⟨rfl, rfl⟩
        go_wp2_with fail
        refine (hK _).mono ?_
        rintro e w ⟨rfl, rfl⟩
        go_wp2_with fail
        refine (HN.out _).mono ?_
        rintro e w ⟨rfl, rfl⟩
        go_wp2_with fail
        refine wp_region_held_drew (S := fun x => Below w.heap.size w x) (by kernel_rfl) (Below.drew (Below.refl _ _)) (fun hHeld => ?_)
        refine tk 0 (.int .u64 0) rfl (.inl ⟨by rfl, ?_⟩) ?_
        · intro _ h; (try dsimp only at h); go_simp <;> first | decide | assumption
        try simp only [Act.put, gA, gS, gZ, sA, sZ, sS]
        refine tk 1 (.int .i64 3) rfl (.inl ⟨by rfl, ?_⟩) ?_
        · intro _ h; (try dsimp only at h); go_simp <;> first | decide | assumption
        try simp only [Act.put, gA, gS, gZ, sA, sZ, sS]
        refine tk 3 (.bool false) rfl (.inl ⟨by rfl, ?_⟩) ?_
        · intro _ h; (try dsimp only at h); go_simp <;> first | decide | assumption
        try simp only [Act.put, gA, gS, gZ, sA, sZ, sS]
        refine wpAnyH_ready (rs := [2]) (by kernel_rfl) (by simp) ?_
        refine AllReadyH.cons rfl (fun K' hK => ?_) AllReadyH.nil
        rw [if_pos (by rfl)]
        simp only [List.getElem_toArray, List.getElem_cons_succ, List.getElem_cons_zero]
        go_wp2_with fail
        refine (bytesD_any 0 3 _ (by decide)).mono ?_
        rintro e z ⟨⟨ba, bc, rfl, ht⟩, hbx⟩
        try go_wp2_with fail
        refine hK.out _ _ (Below.andThen hHeld hbx) (fun hHeld => ?_)
        clear hK K'
        try simp only [Act.put, gA, gS, gZ, sA, sZ, sS]
        refine tk 4 (.bool false) rfl (.inl ⟨by rfl, ?_⟩) ?_
        · intro _ h; (try dsimp only at h); go_simp <;> first | decide | assumption
        try simp only [Act.put, gA, gS, gZ, sA, sZ, sS]
        refine tk 5 undef rfl (.inr ⟨by rfl, rfl⟩) ?_
        try simp only [Act.put, gA, gS, gZ, sA, sZ, sS]
        refine tk 6 undef rfl (.inr ⟨by rfl, rfl⟩) ?_
        try simp only [Act.put, gA, gS, gZ, sA, sZ, sS]
        refine tk 7 undef rfl (.inr ⟨by rfl, rfl⟩) ?_
        try simp only [Act.put, gA, gS, gZ, sA, sZ, sS]
        refine tk 8 undef rfl (.inr ⟨by rfl, rfl⟩) ?_
        try simp only [Act.put, gA, gS, gZ, sA, sZ, sS]
        refine tk 9 undef rfl (.inr ⟨by rfl, rfl⟩) ?_
        try simp only [Act.put, gA, gS, gZ, sA, sZ, sS]
        refine tk 10 undef rfl (.inr ⟨by rfl, rfl⟩) ?_
        try simp only [Act.put, gA, gS, gZ, sA, sZ, sS]
        refine tk 11 undef rfl (.inr ⟨by rfl, rfl⟩) ?_
        try simp only [Act.put, gA, gS, gZ, sA, sZ, sS]
        refine tk 12 undef rfl (.inr ⟨by rfl, rfl⟩) ?_
        try simp only [Act.put, gA, gS, gZ, sA, sZ, sS]
        refine tk 13 (.bool false) rfl (.inl ⟨by rfl, ?_⟩) ?_
        · intro _ h; (try dsimp only at h); go_simp <;> first | decide | assumption
        try simp only [Act.put, gA, gS, gZ, sA, sZ, sS]
        refine tk 14 (.slice ba 3 bc) rfl (.inl ⟨by rfl, ?_⟩) ?_
        · intro _ h; (try dsimp only at h); go_simp <;> first | decide | assumption
        try simp only [Act.put, gA, gS, gZ, sA, sZ, sS]
        refine tk 15 (.bool false) rfl (.inl ⟨by rfl, ?_⟩) ?_
        · intro _ h; (try dsimp only at h); go_simp <;> first | decide | assumption
        try simp only [Act.put, gA, gS, gZ, sA, sZ, sS]
        refine wpAnyH_done (by kernel_rfl) ?_ _
        go_wp2_with fail
        go_ret2
        exact ⟨⟨_, rfl⟩, hHeld⟩
      | some n =>
        replace hN : (∀ w : World, Calls Tryz.prog 37 #[.string s] w fun e w' => e = .returned (.tuple #[.int .u64 (n : Int), .bool true]) ∧ w' = w) := hN
        have HN : Hid _ := hN
        clear hN
        have nm := AM n rfl
        clear AM
        by_cases hle : n ≤ 16777215
        · show Calls _ _ _ _ (RefTo w (Option.map (fun n : Nat => bytesL (n : Int) 3) (if n ≤ 16777215 then some n else none)))
          rw [if_pos hle]
          obtain ⟨R, HR⟩ : ∃ R, Hid (some (bytesL (n : Int) 3) = R) := ⟨_, rfl⟩
          show Calls _ _ _ _ (RefTo w (some (bytesL (n : Int) 3)))
          rw [HR.out]
          have GLE : ∀ _ : Unit, (n : Int) < 16777216 := fun _ => by omega
          clear hle nm
          go_enter Tryz.func34, Tryz.ntmps34
          go_wp2_with fail
          refine (hS _).mono ?_
          rintro e w ⟨rfl, rfl⟩
          go_wp2_with fail
          refine (hK _).mono ?_
          rintro e w ⟨rfl, rfl⟩
          go_wp2_with fail
          refine (HN.out _).mono ?_
          rintro e w ⟨rfl, rfl⟩
          go_wp2_with fail
          have gle := GLE ()
          refine wp_region_held_drew (S := fun x => Below w.heap.size w x) (by kernel_rfl) (Below.drew (Below.refl _ _)) (fun hHeld => ?_)
          refine tk 0 (.int .u64 (n : Int)) rfl (.inl ⟨by rfl, ?_⟩) ?_
          · intro _ h; (try dsimp only at h); go_simp <;> first | decide | assumption
          try simp only [Act.put, gA, gS, gZ, sA, sZ, sS]
          refine tk 1 (.int .i64 3) rfl (.inl ⟨by rfl, ?_⟩) ?_
          · intro _ h; (try dsimp only at h); go_simp <;> first | decide | assumption
          try simp only [Act.put, gA, gS, gZ, sA, sZ, sS]
          refine tk 3 (.bool true) rfl (.inl ⟨by rfl, ?_⟩) ?_
          · intro _ h; (try dsimp only at h); go_simp <;> first | decide | assumption
          try simp only [Act.put, gA, gS, gZ, sA, sZ, sS]
          refine wpAnyH_ready (rs := [2]) (by kernel_rfl) (by simp) ?_
          refine AllReadyH.cons rfl (fun K' hK => ?_) AllReadyH.nil
          rw [if_pos (by rfl)]
          simp only [List.getElem_toArray, List.getElem_cons_succ, List.getElem_cons_zero]
          go_wp2_with fail
          refine (bytesD_any (n : Int) 3 _ (by decide)).mono ?_
          rintro e z ⟨⟨ba, bc, rfl, ht⟩, hbx⟩
          try go_wp2_with fail
          have hb0 := hHeld
          refine hK.out _ _ (Below.andThen hHeld hbx) (fun hHeld => ?_)
          clear hK K'
          try simp only [Act.put, gA, gS, gZ, sA, sZ, sS]
          refine tk 4 (.bool true) rfl (.inl ⟨by rfl, ?_⟩) ?_
          · intro _ h; (try dsimp only at h); go_simp <;> first | decide | assumption
          try simp only [Act.put, gA, gS, gZ, sA, sZ, sS]
          refine tk 5 (.int .i64 24) rfl (.inl ⟨by rfl, ?_⟩) ?_
          · intro _ h; (try dsimp only at h); go_simp <;> first | decide | assumption
          try simp only [Act.put, gA, gS, gZ, sA, sZ, sS]
          refine tk 6 (.bool false) rfl (.inl ⟨by rfl, ?_⟩) ?_
          · intro _ h; (try dsimp only at h); go_simp <;> first | decide | assumption
          try simp only [Act.put, gA, gS, gZ, sA, sZ, sS]
          refine tk 7 (.bool false) rfl (.inl ⟨by rfl, ?_⟩) ?_
          · intro _ h; (try dsimp only at h); go_simp <;> first | decide | assumption
          try simp only [Act.put, gA, gS, gZ, sA, sZ, sS]
          refine tk 8 (.int .u64 (n : Int)) rfl (.inl ⟨by rfl, ?_⟩) ?_
          · intro _ h; (try dsimp only at h); go_simp <;> first | decide | assumption
          try simp only [Act.put, gA, gS, gZ, sA, sZ, sS]
          refine tk 9 (.int .i64 24) rfl (.inl ⟨by rfl, ?_⟩) ?_
          · intro _ h; (try dsimp only at h); go_simp <;> first | decide | assumption
          try simp only [Act.put, gA, gS, gZ, sA, sZ, sS]
          refine tk 10 (.int .u64 16777216) rfl (.inl ⟨by rfl, ?_⟩) ?_
          · intro _ h; (try dsimp only at h); go_simp <;> first | decide | assumption
          try simp only [Act.put, gA, gS, gZ, sA, sZ, sS]
          refine tk 11 (.bool true) rfl (.inl ⟨by rfl, ?_⟩) ?_
          · intro _ h; (try dsimp only at h); go_simp <;> first | decide | assumption
          try simp only [Act.put, gA, gS, gZ, sA, sZ, sS]
          refine tk 12 (.bool true) rfl (.inl ⟨by rfl, ?_⟩) ?_
          · intro _ h; (try dsimp only at h); go_simp <;> first | decide | assumption
          try simp only [Act.put, gA, gS, gZ, sA, sZ, sS]
          refine tk 13 (.bool true) rfl (.inl ⟨by rfl, ?_⟩) ?_
          · intro _ h; (try dsimp only at h); go_simp <;> first | decide | assumption
          try simp only [Act.put, gA, gS, gZ, sA, sZ, sS]
          refine tk 14 (.slice ba 3 bc) rfl (.inl ⟨by rfl, ?_⟩) ?_
          · intro _ h; (try dsimp only at h); go_simp <;> first | decide | assumption
          try simp only [Act.put, gA, gS, gZ, sA, sZ, sS]
          refine tk 15 (.bool true) rfl (.inl ⟨by rfl, ?_⟩) ?_
          · intro _ h; (try dsimp only at h); go_simp <;> first | decide | assumption
          try simp only [Act.put, gA, gS, gZ, sA, sZ, sS]
          refine wpAnyH_done (by kernel_rfl) ?_ _
          go_wp2_with fail
          go_ret2
          rw [← HR.out]
          exact ⟨⟨_, _, _, rfl, ⟨ht.row, ht.le, ht.max, fun hp => by obtain ⟨g, e1, e2, e3⟩ := ht.own hp; exact ⟨g, e1, Nat.le_trans hb0.size e2, e3⟩⟩⟩, hHeld⟩
        · show Calls _ _ _ _ (RefTo w (Option.map (fun n : Nat => bytesL (n : Int) 3) (if n ≤ 16777215 then some n else none)))
          rw [if_neg hle]
          show Calls _ _ _ _ (RefTo w none)
          have GLE : ∀ _ : Unit, ¬ (n : Int) < 16777216 := fun _ => by omega
          clear hle nm
          go_enter Tryz.func34, Tryz.ntmps34
          go_wp2_with fail
          refine (hS _).mono ?_
          rintro e w ⟨rfl, rfl⟩
          go_wp2_with fail
          refine (hK _).mono ?_
          rintro e w ⟨rfl, rfl⟩
          go_wp2_with fail
          refine (HN.out _).mono ?_
          rintro e w ⟨rfl, rfl⟩
          go_wp2_with fail
          have gle := GLE ()
          refine wp_region_held_drew (S := fun x => Below w.heap.size w x) (by kernel_rfl) (Below.drew (Below.refl _ _)) (fun hHeld => ?_)
          refine tk 0 (.int .u64 (n : Int)) rfl (.inl ⟨by rfl, ?_⟩) ?_
          · intro _ h; (try dsimp only at h); go_simp <;> first | decide | assumption
          try simp only [Act.put, gA, gS, gZ, sA, sZ, sS]
          refine tk 1 (.int .i64 3) rfl (.inl ⟨by rfl, ?_⟩) ?_
          · intro _ h; (try dsimp only at h); go_simp <;> first | decide | assumption
          try simp only [Act.put, gA, gS, gZ, sA, sZ, sS]
          refine tk 3 (.bool true) rfl (.inl ⟨by rfl, ?_⟩) ?_
          · intro _ h; (try dsimp only at h); go_simp <;> first | decide | assumption
          try simp only [Act.put, gA, gS, gZ, sA, sZ, sS]
          refine wpAnyH_ready (rs := [2]) (by kernel_rfl) (by simp) ?_
          refine AllReadyH.cons rfl (fun K' hK => ?_) AllReadyH.nil
          rw [if_pos (by rfl)]
          simp only [List.getElem_toArray, List.getElem_cons_succ, List.getElem_cons_zero]
          go_wp2_with fail
          refine (bytesD_any (n : Int) 3 _ (by decide)).mono ?_
          rintro e z ⟨⟨ba, bc, rfl, ht⟩, hbx⟩
          try go_wp2_with fail
          refine hK.out _ _ (Below.andThen hHeld hbx) (fun hHeld => ?_)
          clear hK K'
          try simp only [Act.put, gA, gS, gZ, sA, sZ, sS]
          refine tk 4 (.bool true) rfl (.inl ⟨by rfl, ?_⟩) ?_
          · intro _ h; (try dsimp only at h); go_simp <;> first | decide | assumption
          try simp only [Act.put, gA, gS, gZ, sA, sZ, sS]
          refine tk 5 (.int .i64 24) rfl (.inl ⟨by rfl, ?_⟩) ?_
          · intro _ h; (try dsimp only at h); go_simp <;> first | decide | assumption
          try simp only [Act.put, gA, gS, gZ, sA, sZ, sS]
          refine tk 6 (.bool false) rfl (.inl ⟨by rfl, ?_⟩) ?_
          · intro _ h; (try dsimp only at h); go_simp <;> first | decide | assumption
          try simp only [Act.put, gA, gS, gZ, sA, sZ, sS]
          refine tk 7 (.bool false) rfl (.inl ⟨by rfl, ?_⟩) ?_
          · intro _ h; (try dsimp only at h); go_simp <;> first | decide | assumption
          try simp only [Act.put, gA, gS, gZ, sA, sZ, sS]
          refine tk 8 (.int .u64 (n : Int)) rfl (.inl ⟨by rfl, ?_⟩) ?_
          · intro _ h; (try dsimp only at h); go_simp <;> first | decide | assumption
          try simp only [Act.put, gA, gS, gZ, sA, sZ, sS]
          refine tk 9 (.int .i64 24) rfl (.inl ⟨by rfl, ?_⟩) ?_
          · intro _ h; (try dsimp only at h); go_simp <;> first | decide | assumption
          try simp only [Act.put, gA, gS, gZ, sA, sZ, sS]
          refine tk 10 (.int .u64 16777216) rfl (.inl ⟨by rfl, ?_⟩) ?_
          · intro _ h; (try dsimp only at h); go_simp <;> first | decide | assumption
          try simp only [Act.put, gA, gS, gZ, sA, sZ, sS]
          refine tk 11 (.bool false) rfl (.inl ⟨by rfl, ?_⟩) ?_
          · intro _ h; (try dsimp only at h); go_simp <;> first | decide | assumption
          try simp only [Act.put, gA, gS, gZ, sA, sZ, sS]
          refine tk 12 (.bool false) rfl (.inl ⟨by rfl, ?_⟩) ?_
          · intro _ h; (try dsimp only at h); go_simp <;> first | decide | assumption
          try simp only [Act.put, gA, gS, gZ, sA, sZ, sS]
          refine tk 13 (.bool false) rfl (.inl ⟨by rfl, ?_⟩) ?_
          · intro _ h; (try dsimp only at h); go_simp <;> first | decide | assumption
          try simp only [Act.put, gA, gS, gZ, sA, sZ, sS]
          refine tk 14 (.slice ba 3 bc) rfl (.inl ⟨by rfl, ?_⟩) ?_
          · intro _ h; (try dsimp only at h); go_simp <;> first | decide | assumption
          try simp only [Act.put, gA, gS, gZ, sA, sZ, sS]
          refine tk 15 (.bool false) rfl (.inl ⟨by rfl, ?_⟩) ?_
          · intro _ h; (try dsimp only at h); go_simp <;> first | decide | assumption
          try simp only [Act.put, gA, gS, gZ, sA, sZ, sS]
          refine wpAnyH_done (by kernel_rfl) ?_ _
          go_wp2_with fail
          go_ret2
          exact ⟨⟨_, rfl⟩, hHeld⟩
    · cases v with
      | none =>
        replace hN : (∀ w : World, Calls Tryz.prog 37 #[.string s] w fun e w' => e = .returned (.tuple #[.int .u64 0, .bool false]) ∧ w' = w) := hN
        have HN : Hid _ := hN
        clear hN
        show Calls _ _ _ _ (RefTo w none)
        clear AM
        go_enter Tryz.func34, Tryz.ntmps34
        go_wp2_with fail
        refine (hS _).mono ?_
        rintro e w ⟨rfl, rfl⟩
        go_wp2_with fail
        refine (hK _).mono ?_
        rintro e w ⟨rfl, rfl⟩
        go_wp2_with fail
        refine (HN.out _).mono ?_
        rintro e w ⟨rfl, rfl⟩
        go_wp2_with fail
        refine wp_region_held_drew (S := fun x => Below w.heap.size w x) (by kernel_rfl) (Below.drew (Below.refl _ _)) (fun hHeld => ?_)
        refine tk 0 (.int .u64 0) rfl (.inl ⟨by rfl, ?_⟩) ?_
        · intro _ h; (try dsimp only at h); go_simp <;> first | decide | assumption
        try simp only [Act.put, gA, gS, gZ, sA, sZ, sS]
        refine tk 1 (.int .i64 3) rfl (.inl ⟨by rfl, ?_⟩) ?_
        · intro _ h; (try dsimp only at h); go_simp <;> first | decide | assumption
        try simp only [Act.put, gA, gS, gZ, sA, sZ, sS]
        refine tk 3 (.bool false) rfl (.inl ⟨by rfl, ?_⟩) ?_
        · intro _ h; (try dsimp only at h); go_simp <;> first | decide | assumption
        try simp only [Act.put, gA, gS, gZ, sA, sZ, sS]
        refine wpAnyH_ready (rs := [2]) (by kernel_rfl) (by simp) ?_
        refine AllReadyH.cons rfl (fun K' hK => ?_) AllReadyH.nil
        rw [if_pos (by rfl)]
        simp only [List.getElem_toArray, List.getElem_cons_succ, List.getElem_cons_zero]
        go_wp2_with fail
        refine (bytesD_any 0 3 _ (by decide)).mono ?_
        rintro e z ⟨⟨ba, bc, rfl, ht⟩, hbx⟩
        try go_wp2_with fail
        refine hK.out _ _ (Below.andThen hHeld hbx) (fun hHeld => ?_)
        clear hK K'
        try simp only [Act.put, gA, gS, gZ, sA, sZ, sS]
        refine tk 4 (.bool false) rfl (.inl ⟨by rfl, ?_⟩) ?_
        · intro _ h; (try dsimp only at h); go_simp <;> first | decide | assumption
        try simp only [Act.put, gA, gS, gZ, sA, sZ, sS]
        refine tk 5 undef rfl (.inr ⟨by rfl, rfl⟩) ?_
        try simp only [Act.put, gA, gS, gZ, sA, sZ, sS]
        refine tk 6 undef rfl (.inr ⟨by rfl, rfl⟩) ?_
        try simp only [Act.put, gA, gS, gZ, sA, sZ, sS]
        refine tk 7 undef rfl (.inr ⟨by rfl, rfl⟩) ?_
        try simp only [Act.put, gA, gS, gZ, sA, sZ, sS]
        refine tk 8 undef rfl (.inr ⟨by rfl, rfl⟩) ?_
        try simp only [Act.put, gA, gS, gZ, sA, sZ, sS]
        refine tk 9 undef rfl (.inr ⟨by rfl, rfl⟩) ?_
        try simp only [Act.put, gA, gS, gZ, sA, sZ, sS]
        refine tk 10 undef rfl (.inr ⟨by rfl, rfl⟩) ?_
        try simp only [Act.put, gA, gS, gZ, sA, sZ, sS]
        refine tk 11 undef rfl (.inr ⟨by rfl, rfl⟩) ?_
        try simp only [Act.put, gA, gS, gZ, sA, sZ, sS]
        refine tk 12 undef rfl (.inr ⟨by rfl, rfl⟩) ?_
        try simp only [Act.put, gA, gS, gZ, sA, sZ, sS]
        refine tk 13 (.bool false) rfl (.inl ⟨by rfl, ?_⟩) ?_
        · intro _ h; (try dsimp only at h); go_simp <;> first | decide | assumption
        try simp only [Act.put, gA, gS, gZ, sA, sZ, sS]
        refine tk 14 (.slice ba 3 bc) rfl (.inl ⟨by rfl, ?_⟩) ?_
        · intro _ h; (try dsimp only at h); go_simp <;> first | decide | assumption
        try simp only [Act.put, gA, gS, gZ, sA, sZ, sS]
        refine tk 15 (.bool false) rfl (.inl ⟨by rfl, ?_⟩) ?_
        · intro _ h; (try dsimp only at h); go_simp <;> first | decide | assumption
        try simp only [Act.put, gA, gS, gZ, sA, sZ, sS]
        refine wpAnyH_done (by kernel_rfl) ?_ _
        go_wp2_with fail
        go_ret2
        exact ⟨⟨_, rfl⟩, hHeld⟩
      | some n =>
        replace hN : (∀ w : World, Calls Tryz.prog 37 #[.string s] w fun e w' => e = .returned (.tuple #[.int .u64 (n : Int), .bool true]) ∧ w' = w) := hN
        have HN : Hid _ := hN
        clear hN
        have nm := AM n rfl
        clear AM
        by_cases hle : n ≤ 16777215
        · show Calls _ _ _ _ (RefTo w (Option.map (fun n : Nat => bytesL (n : Int) 3) (if n ≤ 16777215 then some n else none)))
          rw [if_pos hle]
          obtain ⟨R, HR⟩ : ∃ R, Hid (some (bytesL (n : Int) 3) = R) := ⟨_, rfl⟩
          show Calls _ _ _ _ (RefTo w (some (bytesL (n : Int) 3)))
          rw [HR.out]
          have GLE : ∀ _ : Unit, (n : Int) < 16777216 := fun _ => by omega
          clear hle nm
          go_enter Tryz.func34, Tryz.ntmps34
          go_wp2_with fail
          refine (hS _).mono ?_
          rintro e w ⟨rfl, rfl⟩
          go_wp2_with fail
          refine (hK _).mono ?_
          rintro e w ⟨rfl, rfl⟩
          go_wp2_with fail
          refine (HN.out _).mono ?_
          rintro e w ⟨rfl, rfl⟩
          go_wp2_with fail
          have gle := GLE ()
          refine wp_region_held_drew (S := fun x => Below w.heap.size w x) (by kernel_rfl) (Below.drew (Below.refl _ _)) (fun hHeld => ?_)
          refine tk 0 (.int .u64 (n : Int)) rfl (.inl ⟨by rfl, ?_⟩) ?_
          · intro _ h; (try dsimp only at h); go_simp <;> first | decide | assumption
          try simp only [Act.put, gA, gS, gZ, sA, sZ, sS]
          refine tk 1 (.int .i64 3) rfl (.inl ⟨by rfl, ?_⟩) ?_
          · intro _ h; (try dsimp only at h); go_simp <;> first | decide | assumption
          try simp only [Act.put, gA, gS, gZ, sA, sZ, sS]
          refine tk 3 (.bool true) rfl (.inl ⟨by rfl, ?_⟩) ?_
          · intro _ h; (try dsimp only at h); go_simp <;> first | decide | assumption
          try simp only [Act.put, gA, gS, gZ, sA, sZ, sS]
          refine wpAnyH_ready (rs := [2]) (by kernel_rfl) (by simp) ?_
          refine AllReadyH.cons rfl (fun K' hK => ?_) AllReadyH.nil
          rw [if_pos (by rfl)]
          simp only [List.getElem_toArray, List.getElem_cons_succ, List.getElem_cons_zero]
          go_wp2_with fail
          refine (bytesD_any (n : Int) 3 _ (by decide)).mono ?_
          rintro e z ⟨⟨ba, bc, rfl, ht⟩, hbx⟩
          try go_wp2_with fail
          have hb0 := hHeld
          refine hK.out _ _ (Below.andThen hHeld hbx) (fun hHeld => ?_)
          clear hK K'
          try simp only [Act.put, gA, gS, gZ, sA, sZ, sS]
          refine tk 4 (.bool true) rfl (.inl ⟨by rfl, ?_⟩) ?_
          · intro _ h; (try dsimp only at h); go_simp <;> first | decide | assumption
          try simp only [Act.put, gA, gS, gZ, sA, sZ, sS]
          refine tk 5 (.int .i64 24) rfl (.inl ⟨by rfl, ?_⟩) ?_
          · intro _ h; (try dsimp only at h); go_simp <;> first | decide | assumption
          try simp only [Act.put, gA, gS, gZ, sA, sZ, sS]
          refine tk 6 (.bool false) rfl (.inl ⟨by rfl, ?_⟩) ?_
          · intro _ h; (try dsimp only at h); go_simp <;> first | decide | assumption
          try simp only [Act.put, gA, gS, gZ, sA, sZ, sS]
          refine tk 7 (.bool false) rfl (.inl ⟨by rfl, ?_⟩) ?_
          · intro _ h; (try dsimp only at h); go_simp <;> first | decide | assumption
          try simp only [Act.put, gA, gS, gZ, sA, sZ, sS]
          refine tk 8 (.int .u64 (n : Int)) rfl (.inl ⟨by rfl, ?_⟩) ?_
          · intro _ h; (try dsimp only at h); go_simp <;> first | decide | assumption
          try simp only [Act.put, gA, gS, gZ, sA, sZ, sS]
          refine tk 9 (.int .i64 24) rfl (.inl ⟨by rfl, ?_⟩) ?_
          · intro _ h; (try dsimp only at h); go_simp <;> first | decide | assumption
          try simp only [Act.put, gA, gS, gZ, sA, sZ, sS]
          refine tk 10 (.int .u64 16777216) rfl (.inl ⟨by rfl, ?_⟩) ?_
          · intro _ h; (try dsimp only at h); go_simp <;> first | decide | assumption
          try simp only [Act.put, gA, gS, gZ, sA, sZ, sS]
          refine tk 11 (.bool true) rfl (.inl ⟨by rfl, ?_⟩) ?_
          · intro _ h; (try dsimp only at h); go_simp <;> first | decide | assumption
          try simp only [Act.put, gA, gS, gZ, sA, sZ, sS]
          refine tk 12 (.bool true) rfl (.inl ⟨by rfl, ?_⟩) ?_
          · intro _ h; (try dsimp only at h); go_simp <;> first | decide | assumption
          try simp only [Act.put, gA, gS, gZ, sA, sZ, sS]
          refine tk 13 (.bool true) rfl (.inl ⟨by rfl, ?_⟩) ?_
          · intro _ h; (try dsimp only at h); go_simp <;> first | decide | assumption
          try simp only [Act.put, gA, gS, gZ, sA, sZ, sS]
          refine tk 14 (.slice ba 3 bc) rfl (.inl ⟨by rfl, ?_⟩) ?_
          · intro _ h; (try dsimp only at h); go_simp <;> first | decide | assumption
          try simp only [Act.put, gA, gS, gZ, sA, sZ, sS]
          refine tk 15 (.bool true) rfl (.inl ⟨by rfl, ?_⟩) ?_
          · intro _ h; (try dsimp only at h); go_simp <;> first | decide | assumption
          try simp only [Act.put, gA, gS, gZ, sA, sZ, sS]
          refine wpAnyH_done (by kernel_rfl) ?_ _
          go_wp2_with fail
          go_ret2
          rw [← HR.out]
          exact ⟨⟨_, _, _, rfl, ⟨ht.row, ht.le, ht.max, fun hp => by obtain ⟨g, e1, e2, e3⟩ := ht.own hp; exact ⟨g, e1, Nat.le_trans hb0.size e2, e3⟩⟩⟩, hHeld⟩
        · show Calls _ _ _ _ (RefTo w (Option.map (fun n : Nat => bytesL (n : Int) 3) (if n ≤ 16777215 then some n else none)))
          rw [if_neg hle]
          show Calls _ _ _ _ (RefTo w none)
          have GLE : ∀ _ : Unit, ¬ (n : Int) < 16777216 := fun _ => by omega
          clear hle nm
          go_enter Tryz.func34, Tryz.ntmps34
          go_wp2_with fail
          refine (hS _).mono ?_
          rintro e w ⟨rfl, rfl⟩
          go_wp2_with fail
          refine (hK _).mono ?_
          rintro e w ⟨rfl, rfl⟩
          go_wp2_with fail
          refine (HN.out _).mono ?_
          rintro e w ⟨rfl, rfl⟩
          go_wp2_with fail
          have gle := GLE ()
          refine wp_region_held_drew (S := fun x => Below w.heap.size w x) (by kernel_rfl) (Below.drew (Below.refl _ _)) (fun hHeld => ?_)
          refine tk 0 (.int .u64 (n : Int)) rfl (.inl ⟨by rfl, ?_⟩) ?_
          · intro _ h; (try dsimp only at h); go_simp <;> first | decide | assumption
          try simp only [Act.put, gA, gS, gZ, sA, sZ, sS]
          refine tk 1 (.int .i64 3) rfl (.inl ⟨by rfl, ?_⟩) ?_
          · intro _ h; (try dsimp only at h); go_simp <;> first | decide | assumption
          try simp only [Act.put, gA, gS, gZ, sA, sZ, sS]
          refine tk 3 (.bool true) rfl (.inl ⟨by rfl, ?_⟩) ?_
          · intro _ h; (try dsimp only at h); go_simp <;> first | decide | assumption
          try simp only [Act.put, gA, gS, gZ, sA, sZ, sS]
          refine wpAnyH_ready (rs := [2]) (by kernel_rfl) (by simp) ?_
          refine AllReadyH.cons rfl (fun K' hK => ?_) AllReadyH.nil
          rw [if_pos (by rfl)]
          simp only [List.getElem_toArray, List.getElem_cons_succ, List.getElem_cons_zero]
          go_wp2_with fail
          refine (bytesD_any (n : Int) 3 _ (by decide)).mono ?_
          rintro e z ⟨⟨ba, bc, rfl, ht⟩, hbx⟩
          try go_wp2_with fail
          refine hK.out _ _ (Below.andThen hHeld hbx) (fun hHeld => ?_)
          clear hK K'
          try simp only [Act.put, gA, gS, gZ, sA, sZ, sS]
          refine tk 4 (.bool true) rfl (.inl ⟨by rfl, ?_⟩) ?_
          · intro _ h; (try dsimp only at h); go_simp <;> first | decide | assumption
          try simp only [Act.put, gA, gS, gZ, sA, sZ, sS]
          refine tk 5 (.int .i64 24) rfl (.inl ⟨by rfl, ?_⟩) ?_
          · intro _ h; (try dsimp only at h); go_simp <;> first | decide | assumption
          try simp only [Act.put, gA, gS, gZ, sA, sZ, sS]
          refine tk 6 (.bool false) rfl (.inl ⟨by rfl, ?_⟩) ?_
          · intro _ h; (try dsimp only at h); go_simp <;> first | decide | assumption
          try simp only [Act.put, gA, gS, gZ, sA, sZ, sS]
          refine tk 7 (.bool false) rfl (.inl ⟨by rfl, ?_⟩) ?_
          · intro _ h; (try dsimp only at h); go_simp <;> first | decide | assumption
          try simp only [Act.put, gA, gS, gZ, sA, sZ, sS]
          refine tk 8 (.int .u64 (n : Int)) rfl (.inl ⟨by rfl, ?_⟩) ?_
          · intro _ h; (try dsimp only at h); go_simp <;> first | decide | assumption
          try simp only [Act.put, gA, gS, gZ, sA, sZ, sS]
          refine tk 9 (.int .i64 24) rfl (.inl ⟨by rfl, ?_⟩) ?_
          · intro _ h; (try dsimp only at h); go_simp <;> first | decide | assumption
          try simp only [Act.put, gA, gS, gZ, sA, sZ, sS]
          refine tk 10 (.int .u64 16777216) rfl (.inl ⟨by rfl, ?_⟩) ?_
          · intro _ h; (try dsimp only at h); go_simp <;> first | decide | assumption
          try simp only [Act.put, gA, gS, gZ, sA, sZ, sS]
          refine tk 11 (.bool false) rfl (.inl ⟨by rfl, ?_⟩) ?_
          · intro _ h; (try dsimp only at h); go_simp <;> first | decide | assumption
          try simp only [Act.put, gA, gS, gZ, sA, sZ, sS]
          refine tk 12 (.bool false) rfl (.inl ⟨by rfl, ?_⟩) ?_
          · intro _ h; (try dsimp only at h); go_simp <;> first | decide | assumption
          try simp only [Act.put, gA, gS, gZ, sA, sZ, sS]
          refine tk 13 (.bool false) rfl (.inl ⟨by rfl, ?_⟩) ?_
          · intro _ h; (try dsimp only at h); go_simp <;> first | decide | assumption
          try simp only [Act.put, gA, gS, gZ, sA, sZ, sS]
          refine tk 14 (.slice ba 3 bc) rfl (.inl ⟨by rfl, ?_⟩) ?_
          · intro _ h; (try dsimp only at h); go_simp <;> first | decide | assumption
          try simp only [Act.put, gA, gS, gZ, sA, sZ, sS]
          refine tk 15 (.bool false) rfl (.inl ⟨by rfl, ?_⟩) ?_
          · intro _ h; (try dsimp only at h); go_simp <;> first | decide | assumption
          try simp only [Act.put, gA, gS, gZ, sA, sZ, sS]
          refine wpAnyH_done (by kernel_rfl) ?_ _
          go_wp2_with fail
          go_ret2
          exact ⟨⟨_, rfl⟩, hHeld⟩

set_option linter.unusedSimpArgs false in
set_option maxHeartbeats 4000000 in
set_option maxRecDepth 100000 in
theorem wholeU4 (t : Int) (l : List UInt8) (w : World) (hk : kindN t = 3) (hs : sizeN t = 4) (hl : l.length ≤ 1000000) :
    Calls Tryz.prog 34 #[.int .u8 t, .string (str l)] w (RefTo w (intV t l)) := by
  have hlt : letN t = 117 := by unfold letN; rw [hk]; rfl
  have hS := fun w => refSize_any t w
  have hK := fun w => refKind_any t w
  rw [hs] at hS
  rw [hlt] at hK
  have hN := fun w => refNumberD_any l w hl
  have hH := fun w => hexD_any (l.drop 2) w
  have IV : Hid (intV t l = ((anyU l).bind fun n => if n ≤ 4294967295 then some n else none).map fun n : Nat => bytesL (n : Int) 4) := by
    show _ = _
    rw [uns_int t l 4 hs hk]
    rw [show (2 ^ (8 * 4) - 1 : Nat) = 4294967295 from rfl, unsV_any 4294967295 (by decide) l]
    generalize ((anyU l).bind fun n => if n ≤ 4294967295 then some n else none) = o
    cases o <;> rfl
  have SF := slice_from l 2
  have ST : 2 ≤ l.length → ∀ w : World, (Instr.slice 9 (.string (str l)) none (some (.int .i64 2)) none).run Tryz.prog w = .ok (.string (str (l.take 2))) w := fun hk w => by
    have hs : (str l).size = l.length := by unfold str; simp [ByteArray.size]
    rw [run_slice_string_h (P := Tryz.prog) w 9 (str l) Tryz.underlying9 .i64 _ (by omega) (by rw [hs]; omega)]
    congr 2
    apply ByteArray.ext
    simp [str, ByteArray.data_extract]
  obtain ⟨s, HSL, htl, hsz, _⟩ := str_facts l
  rw [HSL.out] at hN SF ST ⊢
  rw [IV.out]
  have AM := fun n h => anyU_max l n h
  by_cases hx : Lib.hasPrefix l [48, 120] = true ∧ 2 < l.length
  · have hA : anyU l = hexV (l.drop 2) := by unfold anyU; rw [if_pos hx]
    rw [hA] at AM ⊢
    have g2 : (2 : Int) < (l.length : Int) := by omega
    have sf := SF (by omega)
    have st := ST (by omega)
    have t2 : l.take 2 = [48, 120] := by have := hx.1; rw [pfx2 l hx.2] at this; simpa using this
    rw [t2] at st
    have st' : ∀ w : World, (Instr.slice 9 (.string s) none (some (.int .i64 2)) none).run Tryz.prog w = .ok (.string ⟨#[48, 120]⟩) w := st
    have sf' : ∀ w : World, (Instr.slice 9 (.string s) (some (.int .i64 2)) none none).run Tryz.prog w = .ok (.string (str (l.drop 2))) w := sf
    clear SF ST st sf t2 hA hx IV
    generalize str (l.drop 2) = sx at *
    generalize hexV (l.drop 2) = v at *
    generalize decV 18446744073709551615 l = v0 at *
    obtain ⟨n0, b0, HN⟩ : ∃ (n0 : Int) (b0 : Bool), Hid (∀ w : World, Calls Tryz.prog 37 #[.string s] w fun e w' => e = .returned (.tuple #[.int .u64 n0, .bool b0]) ∧ w' = w) := by cases v0 with | none => exact ⟨_, _, hN⟩ | some m => exact ⟨_, _, hN⟩
    clear hN
    cases v with
    | none =>
      replace hH : (∀ w : World, Calls Tryz.prog 40 #[.string sx] w fun e w' => e = .returned (.tuple #[.int .u64 0, .bool false]) ∧ w' = w) := hH
      show Calls _ _ _ _ (RefTo w none)
      clear AM
      go_enter Tryz.func34, Tryz.ntmps34
      go_wp2_with fail
      refine (hS _).mono ?_
      rintro e w ⟨rfl, rfl⟩
      go_wp2_with fail
      refine (hK _).mono ?_
      rintro e w ⟨rfl, rfl⟩
      go_wp2_with fail
      refine (HN.out _).mono ?_
      rintro e w ⟨rfl, rfl⟩
      go_wp2_with fail
      refine (hH _).mono ?_
      rintro e w ⟨rfl, rfl⟩
      go_wp2_with fail
      refine wp_region_held_drew (S := fun x => Below w.heap.size w x) (by kernel_rfl) (Below.drew (Below.refl _ _)) (fun hHeld => ?_)
      refine tk 0 (.int .u64 0) rfl (.inl ⟨by rfl, ?_⟩) ?_
      · intro _ h; (try dsimp only at h); go_simp <;> first | decide | assumption
      try simp only [Act.put, gA, gS, gZ, sA, sZ, sS]
      refine tk 1 (.int .i64 4) rfl (.inl ⟨by rfl, ?_⟩) ?_
      · intro _ h; (try dsimp only at h); go_simp <;> first | decide | assumption
      try simp only [Act.put, gA, gS, gZ, sA, sZ, sS]
      refine tk 3 (.bool false) rfl (.inl ⟨by rfl, ?_⟩) ?_
      · intro _ h; (try dsimp only at h); go_simp <;> first | decide | assumption
      try simp only [Act.put, gA, gS, gZ, sA, sZ, sS]
      refine wpAnyH_ready (rs := [2]) (by kernel_rfl) (by simp) ?_
      refine AllReadyH.cons rfl (fun K' hK => ?_) AllReadyH.nil
      rw [if_pos (by rfl)]
      simp only [List.getElem_toArray, List.getElem_cons_succ, List.getElem_cons_zero]
      go_wp2_with fail
      refine (bytesD_any 0 4 _ (by decide)).mono ?_
      rintro e z ⟨⟨ba, bc, rfl, ht⟩, hbx⟩
      try go_wp2_with fail
      refine hK.out _ _ (Below.andThen hHeld hbx) (fun hHeld => ?_)
      clear hK K'
      try simp only [Act.put, gA, gS, gZ, sA, sZ, sS]
      refine tk 4 (.bool false) rfl (.inl ⟨by rfl, ?_⟩) ?_
      · intro _ h; (try dsimp only at h); go_simp <;> first | decide | assumption
      try simp only [Act.put, gA, gS, gZ, sA, sZ, sS]
      refine tk 5 undef rfl (.inr ⟨by rfl, rfl⟩) ?_
      try simp only [Act.put, gA, gS, gZ, sA, sZ, sS]
      refine tk 6 undef rfl (.inr ⟨by rfl, rfl⟩) ?_
      try simp only [Act.put, gA, gS, gZ, sA, sZ, sS]
      refine tk 7 undef rfl (.inr ⟨by rfl, rfl⟩) ?_
      try simp only [Act.put, gA, gS, gZ, sA, sZ, sS]
      refine tk 8 undef rfl (.inr ⟨by rfl, rfl⟩) ?_
      try simp only [Act.put, gA, gS, gZ, sA, sZ, sS]
      refine tk 9 undef rfl (.inr ⟨by rfl, rfl⟩) ?_
      try simp only [Act.put, gA, gS, gZ, sA, sZ, sS]
      refine tk 10 undef rfl (.inr ⟨by rfl, rfl⟩) ?_
      try simp only [Act.put, gA, gS, gZ, sA, sZ, sS]
      refine tk 11 undef rfl (.inr ⟨by rfl, rfl⟩) ?_
      try simp only [Act.put, gA, gS, gZ, sA, sZ, sS]
      refine tk 12 undef rfl (.inr ⟨by rfl, rfl⟩) ?_
      try simp only [Act.put, gA, gS, gZ, sA, sZ, sS]
      refine tk 13 (.bool false) rfl (.inl ⟨by rfl, ?_⟩) ?_
      · intro _ h; (try dsimp only at h); go_simp <;> first | decide | assumption
      try simp only [Act.put, gA, gS, gZ, sA, sZ, sS]
      refine tk 14 (.slice ba 4 bc) rfl (.inl ⟨by rfl, ?_⟩) ?_
      · intro _ h; (try dsimp only at h); go_simp <;> first | decide | assumption
      try simp only [Act.put, gA, gS, gZ, sA, sZ, sS]
      refine tk 15 (.bool false) rfl (.inl ⟨by rfl, ?_⟩) ?_
      · intro _ h; (try dsimp only at h); go_simp <;> first | decide | assumption
      try simp only [Act.put, gA, gS, gZ, sA, sZ, sS]
      refine wpAnyH_done (by kernel_rfl) ?_ _
      go_wp2_with fail
      go_ret2
      exact ⟨⟨_, rfl⟩, hHeld⟩
    | some n =>
      replace hH : (∀ w : World, Calls Tryz.prog 40 #[.string sx] w fun e w' => e = .returned (.tuple #[.int .u64 (n : Int), .bool true]) ∧ w' = w) := hH
      have nm := AM n rfl
      clear AM
      by_cases hle : n ≤ 4294967295
      · show Calls _ _ _ _ (RefTo w (Option.map (fun n : Nat => bytesL (n : Int) 4) (if n ≤ 4294967295 then some n else none)))
        rw [if_pos hle]
        obtain ⟨R, HR⟩ : ∃ R, Hid (some (bytesL (n : Int) 4) = R) := ⟨_, rfl⟩
        show Calls _ _ _ _ (RefTo w (some (bytesL (n : Int) 4)))
        rw [HR.out]
        have GLE : ∀ _ : Unit, (n : Int) < 4294967296 := fun _ => by omega
        clear hle nm
        go_enter Tryz.func34, Tryz.ntmps34
        go_wp2_with fail
        refine (hS _).mono ?_
        rintro e w ⟨rfl, rfl⟩
        go_wp2_with fail
        refine (hK _).mono ?_
        rintro e w ⟨rfl, rfl⟩
        go_wp2_with fail
        refine (HN.out _).mono ?_
        rintro e w ⟨rfl, rfl⟩
        go_wp2_with fail
        refine (hH _).mono ?_
        rintro e w ⟨rfl, rfl⟩
        go_wp2_with fail
        have gle := GLE ()
        refine wp_region_held_drew (S := fun x => Below w.heap.size w x) (by kernel_rfl) (Below.drew (Below.refl _ _)) (fun hHeld => ?_)
        refine tk 0 (.int .u64 (n : Int)) rfl (.inl ⟨by rfl, ?_⟩) ?_
        · intro _ h; (try dsimp only at h); go_simp <;> first | decide | assumption
        try simp only [Act.put, gA, gS, gZ, sA, sZ, sS]
        refine tk 1 (.int .i64 4) rfl (.inl ⟨by rfl, ?_⟩) ?_
        · intro _ h; (try dsimp only at h); go_simp <;> first | decide | assumption
        try simp only [Act.put, gA, gS, gZ, sA, sZ, sS]
        refine tk 3 (.bool true) rfl (.inl ⟨by rfl, ?_⟩) ?_
        · intro _ h; (try dsimp only at h); go_simp <;> first | decide | assumption
        try simp only [Act.put, gA, gS, gZ, sA, sZ, sS]
        refine wpAnyH_ready (rs := [2]) (by kernel_rfl) (by simp) ?_
        refine AllReadyH.cons rfl (fun K' hK => ?_) AllReadyH.nil
        rw [if_pos (by rfl)]
        simp only [List.getElem_toArray, List.getElem_cons_succ, List.getElem_cons_zero]
        go_wp2_with fail
        refine (bytesD_any (n : Int) 4 _ (by decide)).mono ?_
        rintro e z ⟨⟨ba, bc, rfl, ht⟩, hbx⟩
        try go_wp2_with fail
        have hb0 := hHeld
        refine hK.out _ _ (Below.andThen hHeld hbx) (fun hHeld => ?_)
        clear hK K'
        try simp only [Act.put, gA, gS, gZ, sA, sZ, sS]
        refine tk 4 (.bool true) rfl (.inl ⟨by rfl, ?_⟩) ?_
        · intro _ h; (try dsimp only at h); go_simp <;> first | decide | assumption
        try simp only [Act.put, gA, gS, gZ, sA, sZ, sS]
        refine tk 5 (.int .i64 32) rfl (.inl ⟨by rfl, ?_⟩) ?_
        · intro _ h; (try dsimp only at h); go_simp <;> first | decide | assumption
        try simp only [Act.put, gA, gS, gZ, sA, sZ, sS]
        refine tk 6 (.bool false) rfl (.inl ⟨by rfl, ?_⟩) ?_
        · intro _ h; (try dsimp only at h); go_simp <;> first | decide | assumption
        try simp only [Act.put, gA, gS, gZ, sA, sZ, sS]
        refine tk 7 (.bool false) rfl (.inl ⟨by rfl, ?_⟩) ?_
        · intro _ h; (try dsimp only at h); go_simp <;> first | decide | assumption
        try simp only [Act.put, gA, gS, gZ, sA, sZ, sS]
        refine tk 8 (.int .u64 (n : Int)) rfl (.inl ⟨by rfl, ?_⟩) ?_
        · intro _ h; (try dsimp only at h); go_simp <;> first | decide | assumption
        try simp only [Act.put, gA, gS, gZ, sA, sZ, sS]
        refine tk 9 (.int .i64 32) rfl (.inl ⟨by rfl, ?_⟩) ?_
        · intro _ h; (try dsimp only at h); go_simp <;> first | decide | assumption
        try simp only [Act.put, gA, gS, gZ, sA, sZ, sS]
        refine tk 10 (.int .u64 4294967296) rfl (.inl ⟨by rfl, ?_⟩) ?_
        · intro _ h; (try dsimp only at h); go_simp <;> first | decide | assumption
        try simp only [Act.put, gA, gS, gZ, sA, sZ, sS]
        refine tk 11 (.bool true) rfl (.inl ⟨by rfl, ?_⟩) ?_
        · intro _ h; (try dsimp only at h); go_simp <;> first | decide | assumption
        try simp only [Act.put, gA, gS, gZ, sA, sZ, sS]
        refine tk 12 (.bool true) rfl (.inl ⟨by rfl, ?_⟩) ?_
        · intro _ h; (try dsimp only at h); go_simp <;> first | decide | assumption
        try simp only [Act.put, gA, gS, gZ, sA, sZ, sS]
        refine tk 13 (.bool true) rfl (.inl ⟨by rfl, ?_⟩) ?_
        · intro _ h; (try dsimp only at h); go_simp <;> first | decide | assumption
        try simp only [Act.put, gA, gS, gZ, sA, sZ, sS]
        refine tk 14 (.slice ba 4 bc) rfl (.inl ⟨by rfl, ?_⟩) ?_
        · intro _ h; (try dsimp only at h); go_simp <;> first | decide | assumption
        try simp only [Act.put, gA, gS, gZ, sA, sZ, sS]
        refine tk 15 (.bool true) rfl (.inl ⟨by rfl, ?_⟩) ?_
        · intro _ h; (try dsimp only at h); go_simp <;> first | decide | assumption
        try simp only [Act.put, gA, gS, gZ, sA, sZ, sS]
        refine wpAnyH_done (by kernel_rfl) ?_ _
        go_wp2_with fail
        go_ret2
        rw [← HR.out]
        exact ⟨⟨_, _, _, rfl, ⟨ht.row, ht.le, ht.max, fun hp => by obtain ⟨g, e1, e2, e3⟩ := ht.own hp; exact ⟨g, e1, Nat.le_trans hb0.size e2, e3⟩⟩⟩, hHeld⟩
      · show Calls _ _ _ _ (RefTo w (Option.map (fun n : Nat => bytesL (n : Int) 4) (if n ≤ 4294967295 then some n else none)))
        rw [if_neg hle]
        show Calls _ _ _ _ (RefTo w none)
        have GLE : ∀ _ : Unit, ¬ (n : Int) < 4294967296 := fun _ => by omega
        clear hle nm
        go_enter Tryz.func34, Tryz.ntmps34
        go_wp2_with fail
        refine (hS _).mono ?_
        rintro e w ⟨rfl, rfl⟩
        go_wp2_with fail
        refine (hK _).mono ?_
        rintro e w ⟨rfl, rfl⟩
        go_wp2_with fail
        refine (HN.out _).mono ?_
        rintro e w ⟨rfl, rfl⟩
        go_wp2_with fail
        refine (hH _).mono ?_
        rintro e w ⟨rfl, rfl⟩
        go_wp2_with fail
        have gle := GLE ()
        refine wp_region_held_drew (S := fun x => Below w.heap.size w x) (by kernel_rfl) (Below.drew (Below.refl _ _)) (fun hHeld => ?_)
        refine tk 0 (.int .u64 (n : Int)) rfl (.inl ⟨by rfl, ?_⟩) ?_
        · intro _ h; (try dsimp only at h); go_simp <;> first | decide | assumption
        try simp only [Act.put, gA, gS, gZ, sA, sZ, sS]
        refine tk 1 (.int .i64 4) rfl (.inl ⟨by rfl, ?_⟩) ?_
        · intro _ h; (try dsimp only at h); go_simp <;> first | decide | assumption
        try simp only [Act.put, gA, gS, gZ, sA, sZ, sS]
        refine tk 3 (.bool true) rfl (.inl ⟨by rfl, ?_⟩) ?_
        · intro _ h; (try dsimp only at h); go_simp <;> first | decide | assumption
        try simp only [Act.put, gA, gS, gZ, sA, sZ, sS]
        refine wpAnyH_ready (rs := [2]) (by kernel_rfl) (by simp) ?_
        refine AllReadyH.cons rfl (fun K' hK => ?_) AllReadyH.nil
        rw [if_pos (by rfl)]
        simp only [List.getElem_toArray, List.getElem_cons_succ, List.getElem_cons_zero]
        go_wp2_with fail
        refine (bytesD_any (n : Int) 4 _ (by decide)).mono ?_
        rintro e z ⟨⟨ba, bc, rfl, ht⟩, hbx⟩
        try go_wp2_with fail
        refine hK.out _ _ (Below.andThen hHeld hbx) (fun hHeld => ?_)
        clear hK K'
        try simp only [Act.put, gA, gS, gZ, sA, sZ, sS]
        refine tk 4 (.bool true) rfl (.inl ⟨by rfl, ?_⟩) ?_
        · intro _ h; (try dsimp only at h); go_simp <;> first | decide | assumption
        try simp only [Act.put, gA, gS, gZ, sA, sZ, sS]
        refine tk 5 (.int .i64 32) rfl (.inl ⟨by rfl, ?_⟩) ?_
        · intro _ h; (try dsimp only at h); go_simp <;> first | decide | assumption
        try simp only [Act.put, gA, gS, gZ, sA, sZ, sS]
        refine tk 6 (.bool false) rfl (.inl ⟨by rfl, ?_⟩) ?_
        · intro _ h; (try dsimp only at h); go_simp <;> first | decide | assumption
        try simp only [Act.put, gA, gS, gZ, sA, sZ, sS]
        refine tk 7 (.bool false) rfl (.inl ⟨by rfl, ?_⟩) ?_
        · intro _ h; (try dsimp only at h); go_simp <;> first | decide | assumption
        try simp only [Act.put, gA, gS, gZ, sA, sZ, sS]
        refine tk 8 (.int .u64 (n : Int)) rfl (.inl ⟨by rfl, ?_⟩) ?_
        · intro _ h; (try dsimp only at h); go_simp <;> first | decide | assumption
        try simp only [Act.put, gA, gS, gZ, sA, sZ, sS]
        refine tk 9 (.int .i64 32) rfl (.inl ⟨by rfl, ?_⟩) ?_
        · intro _ h; (try dsimp only at h); go_simp <;> first | decide | assumption
        try simp only [Act.put, gA, gS, gZ, sA, sZ, sS]
        refine tk 10 (.int .u64 4294967296) rfl (.inl ⟨by rfl, ?_⟩) ?_
        · intro _ h; (try dsimp only at h); go_simp <;> first | decide | assumption
        try simp only [Act.put, gA, gS, gZ, sA, sZ, sS]
        refine tk 11 (.bool false) rfl (.inl ⟨by rfl, ?_⟩) ?_
        · intro _ h; (try dsimp only at h); go_simp <;> first | decide | assumption
        try simp only [Act.put, gA, gS, gZ, sA, sZ, sS]
        refine tk 12 (.bool false) rfl (.inl ⟨by rfl, ?_⟩) ?_
        · intro _ h; (try dsimp only at h); go_simp <;> first | decide | assumption
        try simp only [Act.put, gA, gS, gZ, sA, sZ, sS]
        refine tk 13 (.bool false) rfl (.inl ⟨by rfl, ?_⟩) ?_
        · intro _ h; (try dsimp only at h); go_simp <;> first | decide | assumption
        try simp only [Act.put, gA, gS, gZ, sA, sZ, sS]
        refine tk 14 (.slice ba 4 bc) rfl (.inl ⟨by rfl, ?_⟩) ?_
        · intro _ h; (try dsimp only at h); go_simp <;> first | decide | assumption
        try simp only [Act.put, gA, gS, gZ, sA, sZ, sS]
        refine tk 15 (.bool false) rfl (.inl ⟨by rfl, ?_⟩) ?_
        · intro _ h; (try dsimp only at h); go_simp <;> first | decide | assumption
        try simp only [Act.put, gA, gS, gZ, sA, sZ, sS]
        refine wpAnyH_done (by kernel_rfl) ?_ _
        go_wp2_with fail
        go_ret2
        exact ⟨⟨_, rfl⟩, hHeld⟩
  · have hA : anyU l = decV 18446744073709551615 l := by unfold anyU; rw [if_neg hx]
    rw [hA] at AM ⊢
    have ways : (¬ (2 : Int) < (l.length : Int)) ∨ ((2 : Int) < (l.length : Int) ∧ ∃ q : ByteArray, (∀ w : World, (Instr.slice 9 (.string s) none (some (.int .i64 2)) none).run Tryz.prog w = .ok (.string q) w) ∧ (q.toList == [48, 120]) = false) := by
      by_cases h2 : 2 < l.length
      · refine .inr ⟨by omega, str (l.take 2), ST (by omega), ?_⟩
        rw [show (str (l.take 2)).toList = l.take 2 from by rw [Lib.toList_data]; rfl, ← pfx2 l h2]
        have : ¬ Lib.hasPrefix l [48, 120] = true := fun h => hx ⟨h, h2⟩
        simpa using this
      · exact .inl (by omega)
    clear SF ST hA hx hH IV
    generalize decV 18446744073709551615 l = v at *
    rcases ways with g2 | ⟨g2, q, st, nq⟩
    · cases v with
      | none =>
        replace hN : (∀ w : World, Calls Tryz.prog 37 #[.string s] w fun e w' => e = .returned (.tuple #[.int .u64 0, .bool false]) ∧ w' = w) := hN
        have HN : Hid _ := hN
        clear hN
        show Calls _ _ _ _ (RefTo w none)
        clear AM
        go_enter Tryz.func34, Tryz.ntmps34
        go_wp2_with fail
        refine (hS _).mono ?_
        rintro e w ⟨rfl, rfl⟩
        go_wp2_with fail
        refine (hK _).mono ?_
        rintro e w ⟨rfl, rfl⟩
        go_wp2_with fail
        refine (HN.out _).mono ?_
        rintro e w ⟨rfl, rfl⟩
        go_wp2_with fail
        refine wp_region_held_drew (S := fun x => Below w.heap.size w x) (by kernel_rfl) (Below.drew (Below.refl _ _)) (fun hHeld => ?_)
        refine tk 0 (.int .u64 0) rfl (.inl ⟨by rfl, ?_⟩) ?_
        · intro _ h; (try dsimp only at h); go_simp <;> first | decide | assumption
        try simp only [Act.put, gA, gS, gZ, sA, sZ, sS]
        refine tk 1 (.int .i64 4) rfl (.inl ⟨by rfl, ?_⟩) ?_
        · intro _ h; (try dsimp only at h); go_simp <;> first | decide | assumption
        try simp only [Act.put, gA, gS, gZ, sA, sZ, sS]
        refine tk 3 (.bool false) rfl (.inl ⟨by rfl, ?_⟩) ?_
        · intro _ h; (try dsimp only at h); go_simp <;> first | decide | assumption
        try simp only [Act.put, gA, gS, gZ, sA, sZ, sS]
        refine wpAnyH_ready (rs := [2]) (by kernel_rfl) (by simp) ?_
        refine AllReadyH.cons rfl (fun K' hK => ?_) AllReadyH.nil
        rw [if_pos (by rfl)]
        simp only [List.getElem_toArray, List.getElem_cons_succ, List.getElem_cons_zero]
        go_wp2_with fail
        refine (bytesD_any 0 4 _ (by decide)).mono ?_
        rintro e z ⟨⟨ba, bc, rfl, ht⟩, hbx⟩
        try go_wp2_with fail
        refine hK.out _ _ (Below.andThen hHeld hbx) (fun hHeld => ?_)
        clear hK K'
        try simp only [Act.put, gA, gS, gZ, sA, sZ, sS]
        refine tk 4 (.bool false) rfl (.inl ⟨by rfl, ?_⟩) ?_
        · intro _ h; (try dsimp only at h); go_simp <;> first | decide | assumption
        try simp only [Act.put, gA, gS, gZ, sA, sZ, sS]
        refine tk 5 undef rfl (.inr ⟨by rfl, rfl⟩) ?_
        try simp only [Act.put, gA, gS, gZ, sA, sZ, sS]
        refine tk 6 undef rfl (.inr ⟨by rfl, rfl⟩) ?_
        try simp only [Act.put, gA, gS, gZ, sA, sZ, sS]
        refine tk 7 undef rfl (.inr ⟨by rfl, rfl⟩) ?_
        try simp only [Act.put, gA, gS, gZ, sA, sZ, sS]
        refine tk 8 undef rfl (.inr ⟨by rfl, rfl⟩) ?_
        try simp only [Act.put, gA, gS, gZ, sA, sZ, sS]
        refine tk 9 undef rfl (.inr ⟨by rfl, rfl⟩) ?_
        try simp only [Act.put, gA, gS, gZ, sA, sZ, sS]
        refine tk 10 undef rfl (.inr ⟨by rfl, rfl⟩) ?_
        try simp only [Act.put, gA, gS, gZ, sA, sZ, sS]
        refine tk 11 undef rfl (.inr ⟨by rfl, rfl⟩) ?_
        try simp only [Act.put, gA, gS, gZ, sA, sZ, sS]
        refine tk 12 undef rfl (.inr ⟨by rfl, rfl⟩) ?_
        try simp only [Act.put, gA, gS, gZ, sA, sZ, sS]
        refine tk 13 (.bool false) rfl (.inl ⟨by rfl, ?_⟩) ?_
        · intro _ h; (try dsimp only at h); go_simp <;> first | decide | assumption
        try simp only [Act.put, gA, gS, gZ, sA, sZ, sS]
        refine tk 14 (.slice ba 4 bc) rfl (.inl ⟨by rfl, ?_⟩) ?_
        · intro _ h; (try dsimp only at h); go_simp <;> first | decide | assumption
        try simp only [Act.put, gA, gS, gZ, sA, sZ, sS]
        refine tk 15 (.bool false) rfl (.inl ⟨by rfl, ?_⟩) ?_
        · intro _ h; (try dsimp only at h); go_simp <;> first | decide | assumption
        try simp only [Act.put, gA, gS, gZ, sA, sZ, sS]
        refine wpAnyH_done (by kernel_rfl) ?_ _
        go_wp2_with fail
        go_ret2
        exact ⟨⟨_, rfl⟩, hHeld⟩
      | some n =>
        replace hN : (∀ w : World, Calls Tryz.prog 37 #[.string s] w fun e w' => e = .returned (.tuple #[.int .u64 (n : Int), .bool true]) ∧ w' = w) := hN
        have HN : Hid _ := hN
        clear hN
        have nm := AM n rfl
        clear AM
        by_cases hle : n ≤ 4294967295
        · show Calls _ _ _ _ (RefTo w (Option.map (fun n : Nat => bytesL (n : Int) 4) (if n ≤ 4294967295 then some n else none)))
          rw [if_pos hle]
          obtain ⟨R, HR⟩ : ∃ R, Hid (some (bytesL (n : Int) 4) = R) := ⟨_, rfl⟩
          show Calls _ _ _ _ (RefTo w (some (bytesL (n : Int) 4)))
          rw [HR.out]
          have GLE : ∀ _ : Unit, (n : Int) < 4294967296 := fun _ => by omega
          clear hle nm
          go_enter Tryz.func34, Tryz.ntmps34
          go_wp2_with fail
          refine (hS _).mono ?_
          rintro e w ⟨rfl, rfl⟩
          go_wp2_with fail
          refine (hK _).mono ?_
          rintro e w ⟨rfl, rfl⟩
          go_wp2_with fail
          refine (HN.out _).mono ?_
          rintro e w ⟨rfl, rfl⟩
          go_wp2_with fail
          have gle := GLE ()
          refine wp_region_held_drew (S := fun x => Below w.heap.size w x) (by kernel_rfl) (Below.drew (Below.refl _ _)) (fun hHeld => ?_)
          refine tk 0 (.int .u64 (n : Int)) rfl (.inl ⟨by rfl, ?_⟩) ?_
          · intro _ h; (try dsimp only at h); go_simp <;> first | decide | assumption
          try simp only [Act.put, gA, gS, gZ, sA, sZ, sS]
          refine tk 1 (.int .i64 4) rfl (.inl ⟨by rfl, ?_⟩) ?_
          · intro _ h; (try dsimp only at h); go_simp <;> first | decide | assumption
          try simp only [Act.put, gA, gS, gZ, sA, sZ, sS]
          refine tk 3 (.bool true) rfl (.inl ⟨by rfl, ?_⟩) ?_
          · intro _ h; (try dsimp only at h); go_simp <;> first | decide | assumption
          try simp only [Act.put, gA, gS, gZ, sA, sZ, sS]
          refine wpAnyH_ready (rs := [2]) (by kernel_rfl) (by simp) ?_
          refine AllReadyH.cons rfl (fun K' hK => ?_) AllReadyH.nil
          rw [if_pos (by rfl)]
          simp only [List.getElem_toArray, List.getElem_cons_succ, List.getElem_cons_zero]
          go_wp2_with fail
          refine (bytesD_any (n : Int) 4 _ (by decide)).mono ?_
          rintro e z ⟨⟨ba, bc, rfl, ht⟩, hbx⟩
          try go_wp2_with fail
          have hb0 := hHeld
          refine hK.out _ _ (Below.andThen hHeld hbx) (fun hHeld => ?_)
          clear hK K'
          try simp only [Act.put, gA, gS, gZ, sA, sZ, sS]
          refine tk 4 (.bool true) rfl (.inl ⟨by rfl, ?_⟩) ?_
          · intro _ h; (try dsimp only at h); go_simp <;> first | decide | assumption
          try simp only [Act.put, gA, gS, gZ, sA, sZ, sS]
          refine tk 5 (.int .i64 32) rfl (.inl ⟨by rfl, ?_⟩) ?_
          · intro _ h; (try dsimp only at h); go_simp <;> first | decide | assumption
          try simp only [Act.put, gA, gS, gZ, sA, sZ, sS]
          refine tk 6 (.bool false) rfl (.inl ⟨by rfl, ?_⟩) ?_
          · intro _ h; (try dsimp only at h); go_simp <;> first | decide | assumption
          try simp only [Act.put, gA, gS, gZ, sA, sZ, sS]
          refine tk 7 (.bool false) rfl (.inl ⟨by rfl, ?_⟩) ?_
          · intro _ h; (try dsimp only at h); go_simp <;> first | decide | assumption
          try simp only [Act.put, gA, gS, gZ, sA, sZ, sS]
          refine tk 8 (.int .u64 (n : Int)) rfl (.inl ⟨by rfl, ?_⟩) ?_
          · intro _ h; (try dsimp only at h); go_simp <;> first | decide | assumption
          try simp only [Act.put, gA, gS, gZ, sA, sZ, sS]
          refine tk 9 (.int .i64 32) rfl (.inl ⟨by rfl, ?_⟩) ?_
          · intro _ h; (try dsimp only at h); go_simp <;> first | decide | assumption
          try simp only [Act.put, gA, gS, gZ, sA, sZ, sS]
          refine tk 10 (.int .u64 4294967296) rfl (.inl ⟨by rfl, ?_⟩) ?_
          · intro _ h; (try dsimp only at h); go_simp <;> first | decide | assumption
          try simp only [Act.put, gA, gS, gZ, sA, sZ, sS]
          refine tk 11 (.bool true) rfl (.inl ⟨by rfl, ?_⟩) ?_
          · intro _ h; (try dsimp only at h); go_simp <;> first | decide | assumption
          try simp only [Act.put, gA, gS, gZ, sA, sZ, sS]
          refine tk 12 (.bool true) rfl (.inl ⟨by rfl, ?_⟩) ?_
          · intro _ h; (try dsimp only at h); go_simp <;> first | decide | assumption
          try simp only [Act.put, gA, gS, gZ, sA, sZ, sS]
          refine tk 13 (.bool true) rfl (.inl ⟨by rfl, ?_⟩) ?_
          · intro _ h; (try dsimp only at h); go_simp <;> first | decide | assumption
          try simp only [Act.put, gA, gS, gZ, sA, sZ, sS]
          refine tk 14 (.slice ba 4 bc) rfl (.inl ⟨by rfl, ?_⟩) ?_
          · intro _ h; (try dsimp only at h); go_simp <;> first | decide | assumption
          try simp only [Act.put, gA, gS, gZ, sA, sZ, sS]
          refine tk 15 (.bool true) rfl (.inl ⟨by rfl, ?_⟩) ?_
          · intro _ h; (try dsimp only at h); go_simp <;> first | decide | assumption
          try simp only [Act.put, gA, gS, gZ, sA, sZ, sS]
          refine wpAnyH_done (by kernel_rfl) ?_ _
          go_wp2_with fail
          go_ret2
          rw [← HR.out]
          exact ⟨⟨_, _, _, rfl, ⟨ht.row, ht.le, ht.max, fun hp => by obtain ⟨g, e1, e2, e3⟩ := ht.own hp; exact ⟨g, e1, Nat.le_trans hb0.size e2, e3⟩⟩⟩, hHeld⟩
        · show Calls _ _ _ _ (RefTo w (Option.map (fun n : Nat => bytesL (n : Int) 4) (if n ≤ 4294967295 then some n else none)))
          rw [if_neg hle]
          show Calls _ _ _ _ (RefTo w none)
          have GLE : ∀ _ : Unit, ¬ (n : Int) < 4294967296 := fun _ => by omega
          clear hle nm
          go_enter Tryz.func34, Tryz.ntmps34
          go_wp2_with fail
          refine (hS _).mono ?_
          rintro e w ⟨rfl, rfl⟩
          go_wp2_with fail
          refine (hK _).mono ?_
          rintro e w ⟨rfl, rfl⟩
          go_wp2_with fail
          refine (HN.out _).mono ?_
          rintro e w ⟨rfl, rfl⟩
          go_wp2_with fail
          have gle := GLE ()
          refine wp_region_held_drew (S := fun x => Below w.heap.size w x) (by kernel_rfl) (Below.drew (Below.refl _ _)) (fun hHeld => ?_)
          refine tk 0 (.int .u64 (n : Int)) rfl (.inl ⟨by rfl, ?_⟩) ?_
          · intro _ h; (try dsimp only at h); go_simp <;> first | decide | assumption
          try simp only [Act.put, gA, gS, gZ, sA, sZ, sS]
          refine tk 1 (.int .i64 4) rfl (.inl ⟨by rfl, ?_⟩) ?_
          · intro _ h; (try dsimp only at h); go_simp <;> first | decide | assumption
          try simp only [Act.put, gA, gS, gZ, sA, sZ, sS]
          refine tk 3 (.bool true) rfl (.inl ⟨by rfl, ?_⟩) ?_
          · intro _ h; (try dsimp only at h); go_simp <;> first | decide | assumption
          try simp only [Act.put, gA, gS, gZ, sA, sZ, sS]
          refine wpAnyH_ready (rs := [2]) (by kernel_rfl) (by simp) ?_
          refine AllReadyH.cons rfl (fun K' hK => ?_) AllReadyH.nil
          rw [if_pos (by rfl)]
          simp only [List.getElem_toArray, List.getElem_cons_succ, List.getElem_cons_zero]
          go_wp2_with fail
          refine (bytesD_any (n : Int) 4 _ (by decide)).mono ?_
          rintro e z ⟨⟨ba, bc, rfl, ht⟩, hbx⟩
          try go_wp2_with fail
          refine hK.out _ _ (Below.andThen hHeld hbx) (fun hHeld => ?_)
          clear hK K'
          try simp only [Act.put, gA, gS, gZ, sA, sZ, sS]
          refine tk 4 (.bool true) rfl (.inl ⟨by rfl, ?_⟩) ?_
          · intro _ h; (try dsimp only at h); go_simp <;> first | decide | assumption
          try simp only [Act.put, gA, gS, gZ, sA, sZ, sS]
          refine tk 5 (.int .i64 32) rfl (.inl ⟨by rfl, ?_⟩) ?_
          · intro _ h; (try dsimp only at h); go_simp <;> first | decide | assumption
          try simp only [Act.put, gA, gS, gZ, sA, sZ, sS]
          refine tk 6 (.bool false) rfl (.inl ⟨by rfl, ?_⟩) ?_
          · intro _ h; (try dsimp only at h); go_simp <;> first | decide | assumption
          try simp only [Act.put, gA, gS, gZ, sA, sZ, sS]
          refine tk 7 (.bool false) rfl (.inl ⟨by rfl, ?_⟩) ?_
          · intro _ h; (try dsimp only at h); go_simp <;> first | decide | assumption
          try simp only [Act.put, gA, gS, gZ, sA, sZ, sS]
          refine tk 8 (.int .u64 (n : Int)) rfl (.inl ⟨by rfl, ?_⟩) ?_
          · intro _ h; (try dsimp only at h); go_simp <;> first | decide | assumption
          try simp only [Act.put, gA, gS, gZ, sA, sZ, sS]
          refine tk 9 (.int .i64 32) rfl (.inl ⟨by rfl, ?_⟩) ?_
          · intro _ h; (try dsimp only at h); go_simp <;> first | decide | assumption
          try simp only [Act.put, gA, gS, gZ, sA, sZ, sS]
          refine tk 10 (.int .u64 4294967296) rfl (.inl ⟨by rfl, ?_⟩) ?_
          · intro _ h; (try dsimp only at h); go_simp <;> first | decide | assumption
          try simp only [Act.put, gA, gS, gZ, sA, sZ, sS]
          refine tk 11 (.bool false) rfl (.inl ⟨by rfl, ?_⟩) ?_
          · intro _ h; (try dsimp only at h); go_simp <;> first | decide | assumption
          try simp only [Act.put, gA, gS, gZ, sA, sZ, sS]
          refine tk 12 (.bool false) rfl (.inl ⟨by rfl, ?_⟩) ?_
          · intro _ h; (try dsimp only at h); go_simp <;> first | decide | assumption
          try simp only [Act.put, gA, gS, gZ, sA, sZ, sS]
          refine tk 13 (.bool false) rfl (.inl ⟨by rfl, ?_⟩) ?_
          · intro _ h; (try dsimp only at h); go_simp <;> first | decide | assumption
          try simp only [Act.put, gA, gS, gZ, sA, sZ, sS]
          refine tk 14 (.slice ba 4 bc) rfl (.inl ⟨by rfl, ?_⟩) ?_
          · intro _ h; (try dsimp only at h); go_simp <;> first | decide | assumption
          try simp only [Act.put, gA, gS, gZ, sA, sZ, sS]
          refine tk 15 (.bool false) rfl (.inl ⟨by rfl, ?_⟩) ?_
          · intro _ h; (try dsimp only at h); go_simp <;> first | decide | assumption
          try simp only [Act.put, gA, gS, gZ, sA, sZ, sS]
          refine wpAnyH_done (by kernel_rfl) ?_ _
          go_wp2_with fail
          go_ret2
          exact ⟨⟨_, rfl⟩, hHeld⟩
    · cases v with
      | none =>
        replace hN : (∀ w : World, Calls Tryz.prog 37 #[.string s] w fun e w' => e = .returned (.tuple #[.int .u64 0, .bool false]) ∧ w' = w) := hN
        have HN : Hid _ := hN
        clear hN
        show Calls _ _ _ _ (RefTo w none)
        clear AM
        go_enter Tryz.func34, Tryz.ntmps34
        go_wp2_with fail
        refine (hS _).mono ?_
        rintro e w ⟨rfl, rfl⟩
        go_wp2_with fail
        refine (hK _).mono ?_
        rintro e w ⟨rfl, rfl⟩
        go_wp2_with fail
        refine (HN.out _).mono ?_
        rintro e w ⟨rfl, rfl⟩
        go_wp2_with fail
        refine wp_region_held_drew (S := fun x => Below w.heap.size w x) (by kernel_rfl) (Below.drew (Below.refl _ _)) (fun hHeld => ?_)
        refine tk 0 (.int .u64 0) rfl (.inl ⟨by rfl, ?_⟩) ?_
        · intro _ h; (try dsimp only at h); go_simp <;> first | decide | assumption
        try simp only [Act.put, gA, gS, gZ, sA, sZ, sS]
        refine tk 1 (.int .i64 4) rfl (.inl ⟨by rfl, ?_⟩) ?_
        · intro _ h; (try dsimp only at h); go_simp <;> first | decide | assumption
        try simp only [Act.put, gA, gS, gZ, sA, sZ, sS]
        refine tk 3 (.bool false) rfl (.inl ⟨by rfl, ?_⟩) ?_
        · intro _ h; (try dsimp only at h); go_simp <;> first | decide | assumption
        try simp only [Act.put, gA, gS, gZ, sA, sZ, sS]
        refine wpAnyH_ready (rs := [2]) (by kernel_rfl) (by simp) ?_
        refine AllReadyH.cons rfl (fun K' hK => ?_) AllReadyH.nil
        rw [if_pos (by rfl)]
        simp only [List.getElem_toArray, List.getElem_cons_succ, List.getElem_cons_zero]
        go_wp2_with fail
        refine (bytesD_any 0 4 _ (by decide)).mono ?_
        rintro e z ⟨⟨ba, bc, rfl, ht⟩, hbx⟩
        try go_wp2_with fail
        refine hK.out _ _ (Below.andThen hHeld hbx) (fun hHeld => ?_)
        clear hK K'
        try simp only [Act.put, gA, gS, gZ, sA, sZ, sS]
        refine tk 4 (.bool false) rfl (.inl ⟨by rfl, ?_⟩) ?_
        · intro _ h; (try dsimp only at h); go_simp <;> first | decide | assumption
        try simp only [Act.put, gA, gS, gZ, sA, sZ, sS]
        refine tk 5 undef rfl (.inr ⟨by rfl, rfl⟩) ?_
        try simp only [Act.put, gA, gS, gZ, sA, sZ, sS]
        refine tk 6 undef rfl (.inr ⟨by rfl, rfl⟩) ?_
        try simp only [Act.put, gA, gS, gZ, sA, sZ, sS]
        refine tk 7 undef rfl (.inr ⟨by rfl, rfl⟩) ?_
        try simp only [Act.put, gA, gS, gZ, sA, sZ, sS]
        refine tk 8 undef rfl (.inr ⟨by rfl, rfl⟩) ?_
        try simp only [Act.put, gA, gS, gZ, sA, sZ, sS]
        refine tk 9 undef rfl (.inr ⟨by rfl, rfl⟩) ?_
        try simp only [Act.put, gA, gS, gZ, sA, sZ, sS]
        refine tk 10 undef rfl (.inr ⟨by rfl, rfl⟩) ?_
        try simp only [Act.put, gA, gS, gZ, sA, sZ, sS]
        refine tk 11 undef rfl (.inr ⟨by rfl, rfl⟩) ?_
        try simp only [Act.put, gA, gS, gZ, sA, sZ, sS]
        refine tk 12 undef rfl (.inr ⟨by rfl, rfl⟩) ?_
        try simp only [Act.put, gA, gS, gZ, sA, sZ, sS]
        refine tk 13 (.bool false) rfl (.inl ⟨by rfl, ?_⟩) ?_
        · intro _ h; (try dsimp only at h); go_simp <;> first | decide | assumption
        try simp only [Act.put, gA, gS, gZ, sA, sZ, sS]
        refine tk 14 (.slice ba 4 bc) rfl (.inl ⟨by rfl, ?_⟩) ?_
        · intro _ h; (try dsimp only at h); go_simp <;> first | decide | assumption
        try simp only [Act.put, gA, gS, gZ, sA, sZ, sS]
        refine tk 15 (.bool false) rfl (.inl ⟨by rfl, ?_⟩) ?_
        · intro _ h; (try dsimp only at h); go_simp <;> first | decide | assumption
        try simp only [Act.put, gA, gS, gZ, sA, sZ, sS]
        refine wpAnyH_done (by kernel_rfl) ?_ _
        go_wp2_with fail
        go_ret2
        exact ⟨⟨_, rfl⟩, hHeld⟩
      | some n =>
        replace hN : (∀ w : World, Calls Tryz.prog 37 #[.string s] w fun e w' => e = .returned (.tuple #[.int .u64 (n : Int), .bool true]) ∧ w' = w) := hN
        have HN : Hid _ := hN
        clear hN
        have nm := AM n rfl
        clear AM
        by_cases hle : n ≤ 4294967295
        · show Calls _ _ _ _ (RefTo w (Option.map (fun n : Nat => bytesL (n : Int) 4) (if n ≤ 4294967295 then some n else none)))
          rw [if_pos hle]
          obtain ⟨R, HR⟩ : ∃ R, Hid (some (bytesL (n : Int) 4) = R) := ⟨_, rfl⟩
          show Calls _ _ _ _ (RefTo w (some (bytesL (n : Int) 4)))
          rw [HR.out]
          have GLE : ∀ _ : Unit, (n : Int) < 4294967296 := fun _ => by omega
          clear hle nm
          go_enter Tryz.func34, Tryz.ntmps34
          go_wp2_with fail
          refine (hS _).mono ?_
          rintro e w ⟨rfl, rfl⟩
          go_wp2_with fail
          refine (hK _).mono ?_
          rintro e w ⟨rfl, rfl⟩
          go_wp2_with fail
          refine (HN.out _).mono ?_
          rintro e w ⟨rfl, rfl⟩
          go_wp2_with fail
          have gle := GLE ()
          refine wp_region_held_drew (S := fun x => Below w.heap.size w x) (by kernel_rfl) (Below.drew (Below.refl _ _)) (fun hHeld => ?_)
          refine tk 0 (.int .u64 (n : Int)) rfl (.inl ⟨by rfl, ?_⟩) ?_
          · intro _ h; (try dsimp only at h); go_simp <;> first | decide | assumption
          try simp only [Act.put, gA, gS, gZ, sA, sZ, sS]
          refine tk 1 (.int .i64 4) rfl (.inl ⟨by rfl, ?_⟩) ?_
          · intro _ h; (try dsimp only at h); go_simp <;> first | decide | assumption
          try simp only [Act.put, gA, gS, gZ, sA, sZ, sS]
          refine tk 3 (.bool true) rfl (.inl ⟨by rfl, ?_⟩) ?_
          · intro _ h; (try dsimp only at h); go_simp <;> first | decide | assumption
          try simp only [Act.put, gA, gS, gZ, sA, sZ, sS]
          refine wpAnyH_ready (rs := [2]) (by kernel_rfl) (by simp) ?_
          refine AllReadyH.cons rfl (fun K' hK => ?_) AllReadyH.nil
          rw [if_pos (by rfl)]
          simp only [List.getElem_toArray, List.getElem_cons_succ, List.getElem_cons_zero]
          go_wp2_with fail
          refine (bytesD_any (n : Int) 4 _ (by decide)).mono ?_
          rintro e z ⟨⟨ba, bc, rfl, ht⟩, hbx⟩
          try go_wp2_with fail
          have hb0 := hHeld
          refine hK.out _ _ (Below.andThen hHeld hbx) (fun hHeld => ?_)
          clear hK K'
          try simp only [Act.put, gA, gS, gZ, sA, sZ, sS]
          refine tk 4 (.bool true) rfl (.inl ⟨by rfl, ?_⟩) ?_
          · intro _ h; (try dsimp only at h); go_simp <;> first | decide | assumption
          try simp only [Act.put, gA, gS, gZ, sA, sZ, sS]
          refine tk 5 (.int .i64 32) rfl (.inl ⟨by rfl, ?_⟩) ?_
          · intro _ h; (try dsimp only at h); go_simp <;> first | decide | assumption
          try simp only [Act.put, gA, gS, gZ, sA, sZ, sS]
          refine tk 6 (.bool false) rfl (.inl ⟨by rfl, ?_⟩) ?_
          · intro _ h; (try dsimp only at h); go_simp <;> first | decide | assumption
          try simp only [Act.put, gA, gS, gZ, sA, sZ, sS]
          refine tk 7 (.bool false) rfl (.inl ⟨by rfl, ?_⟩) ?_
          · intro _ h; (try dsimp only at h); go_simp <;> first | decide | assumption
          try simp only [Act.put, gA, gS, gZ, sA, sZ, sS]
          refine tk 8 (.int .u64 (n : Int)) rfl (.inl ⟨by rfl, ?_⟩) ?_
          · intro _ h; (try dsimp only at h); go_simp <;> first | decide | assumption
          try simp only [Act.put, gA, gS, gZ, sA, sZ, sS]
          refine tk 9 (.int .i64 32) rfl (.inl ⟨by rfl, ?_⟩) ?_
          · intro _ h; (try dsimp only at h); go_simp <;> first | decide | assumption
          try simp only [Act.put, gA, gS, gZ, sA, sZ, sS]
          refine tk 10 (.int .u64 4294967296) rfl (.inl ⟨by rfl, ?_⟩) ?_
          · intro _ h; (try dsimp only at h); go_simp <;> first | decide | assumption
          try simp only [Act.put, gA, gS, gZ, sA, sZ, sS]
          refine tk 11 (.bool true) rfl (.inl ⟨by rfl, ?_⟩) ?_
          · intro _ h; (try dsimp only at h); go_simp <;> first | decide | assumption
          try simp only [Act.put, gA, gS, gZ, sA, sZ, sS]
          refine tk 12 (.bool true) rfl (.inl ⟨by rfl, ?_⟩) ?_
          · intro _ h; (try dsimp only at h); go_simp <;> first | decide | assumption
          try simp only [Act.put, gA, gS, gZ, sA, sZ, sS]
          refine tk 13 (.bool true) rfl (.inl ⟨by rfl, ?_⟩) ?_
          · intro _ h; (try dsimp only at h); go_simp <;> first | decide | assumption
          try simp only [Act.put, gA, gS, gZ, sA, sZ, sS]
          refine tk 14 (.slice ba 4 bc) rfl (.inl ⟨by rfl, ?_⟩) ?_
          · intro _ h; (try dsimp only at h); go_simp <;> first | decide | assumption
          try simp only [Act.put, gA, gS, gZ, sA, sZ, sS]
          refine tk 15 (.bool true) rfl (.inl ⟨by rfl, ?_⟩) ?_
          · intro _ h; (try dsimp only at h); go_simp <;> first | decide | assumption
          try simp only [Act.put, gA, gS, gZ, sA, sZ, sS]
          refine wpAnyH_done (by kernel_rfl) ?_ _
          go_wp2_with fail
          go_ret2
          rw [← HR.out]
          exact ⟨⟨_, _, _, rfl, ⟨ht.row, ht.le, ht.max, fun hp => by obtain ⟨g, e1, e2, e3⟩ := ht.own hp; exact ⟨g, e1, Nat.le_trans hb0.size e2, e3⟩⟩⟩, hHeld⟩
        · show Calls _ _ _ _ (RefTo w (Option.map (fun n : Nat => bytesL (n : Int) 4) (if n ≤ 4294967295 then some n else none)))
          rw [if_neg hle]
          show Calls _ _ _ _ (RefTo w none)
          have GLE : ∀ _ : Unit, ¬ (n : Int) < 4294967296 := fun _ => by omega
          clear hle nm
          go_enter Tryz.func34, Tryz.ntmps34
          go_wp2_with fail
          refine (hS _).mono ?_
          rintro e w ⟨rfl, rfl⟩
          go_wp2_with fail
          refine (hK _).mono ?_
          rintro e w ⟨rfl, rfl⟩
          go_wp2_with fail
          refine (HN.out _).mono ?_
          rintro e w ⟨rfl, rfl⟩
          go_wp2_with fail
          have gle := GLE ()
          refine wp_region_held_drew (S := fun x => Below w.heap.size w x) (by kernel_rfl) (Below.drew (Below.refl _ _)) (fun hHeld => ?_)
          refine tk 0 (.int .u64 (n : Int)) rfl (.inl ⟨by rfl, ?_⟩) ?_
          · intro _ h; (try dsimp only at h); go_simp <;> first | decide | assumption
          try simp only [Act.put, gA, gS, gZ, sA, sZ, sS]
          refine tk 1 (.int .i64 4) rfl (.inl ⟨by rfl, ?_⟩) ?_
          · intro _ h; (try dsimp only at h); go_simp <;> first | decide | assumption
          try simp only [Act.put, gA, gS, gZ, sA, sZ, sS]
          refine tk 3 (.bool true) rfl (.inl ⟨by rfl, ?_⟩) ?_
          · intro _ h; (try dsimp only at h); go_simp <;> first | decide | assumption
          try simp only [Act.put, gA, gS, gZ, sA, sZ, sS]
          refine wpAnyH_ready (rs := [2]) (by kernel_rfl) (by simp) ?_
          refine AllReadyH.cons rfl (fun K' hK => ?_) AllReadyH.nil
          rw [if_pos (by rfl)]
          simp only [List.getElem_toArray, List.getElem_cons_succ, List.getElem_cons_zero]
          go_wp2_with fail
          refine (bytesD_any (n : Int) 4 _ (by decide)).mono ?_
          rintro e z ⟨⟨ba, bc, rfl, ht⟩, hbx⟩
          try go_wp2_with fail
          refine hK.out _ _ (Below.andThen hHeld hbx) (fun hHeld => ?_)
          clear hK K'
          try simp only [Act.put, gA, gS, gZ, sA, sZ, sS]
          refine tk 4 (.bool true) rfl (.inl ⟨by rfl, ?_⟩) ?_
          · intro _ h; (try dsimp only at h); go_simp <;> first | decide | assumption
          try simp only [Act.put, gA, gS, gZ, sA, sZ, sS]
          refine tk 5 (.int .i64 32) rfl (.inl ⟨by rfl, ?_⟩) ?_
          · intro _ h; (try dsimp only at h); go_simp <;> first | decide | assumption
          try simp only [Act.put, gA, gS, gZ, sA, sZ, sS]
          refine tk 6 (.bool false) rfl (.inl ⟨by rfl, ?_⟩) ?_
          · intro _ h; (try dsimp only at h); go_simp <;> first | decide | assumption
          try simp only [Act.put, gA, gS, gZ, sA, sZ, sS]
          refine tk 7 (.bool false) rfl (.inl ⟨by rfl, ?_⟩) ?_
          · intro _ h; (try dsimp only at h); go_simp <;> first | decide | assumption
          try simp only [Act.put, gA, gS, gZ, sA, sZ, sS]
          refine tk 8 (.int .u64 (n : Int)) rfl (.inl ⟨by rfl, ?_⟩) ?_
          · intro _ h; (try dsimp only at h); go_simp <;> first | decide | assumption
          try simp only [Act.put, gA, gS, gZ, sA, sZ, sS]
          refine tk 9 (.int .i64 32) rfl (.inl ⟨by rfl, ?_⟩) ?_
          · intro _ h; (try dsimp only at h); go_simp <;> first | decide | assumption
          try simp only [Act.put, gA, gS, gZ, sA, sZ, sS]
          refine tk 10 (.int .u64 4294967296) rfl (.inl ⟨by rfl, ?_⟩) ?_
          · intro _ h; (try dsimp only at h); go_simp <;> first | decide | assumption
          try simp only [Act.put, gA, gS, gZ, sA, sZ, sS]
          refine tk 11 (.bool false) rfl (.inl ⟨by rfl, ?_⟩) ?_
          · intro _ h; (try dsimp only at h); go_simp <;> first | decide | assumption
          try simp only [Act.put, gA, gS, gZ, sA, sZ, sS]
          refine tk 12 (.bool false) rfl (.inl ⟨by rfl, ?_⟩) ?_
          · intro _ h; (try dsimp only at h); go_simp <;> first | decide | assumption
          try simp only [Act.put, gA, gS, gZ, sA, sZ, sS]
          refine tk 13 (.bool false) rfl (.inl ⟨by rfl, ?_⟩) ?_
          · intro _ h; (try dsimp only at h); go_simp <;> first | decide | assumption
          try simp only [Act.put, gA, gS, gZ, sA, sZ, sS]
          refine tk 14 (.slice ba 4 bc) rfl (.inl ⟨by rfl, ?_⟩) ?_
          · intro _ h; (try dsimp only at h); go_simp <;> first | decide | assumption
          try simp only [Act.put, gA, gS, gZ, sA, sZ, sS]
          refine tk 15 (.bool false) rfl (.inl ⟨by rfl, ?_⟩) ?_
          · intro _ h; (try dsimp only at h); go_simp <;> first | decide | assumption
          try simp only [Act.put, gA, gS, gZ, sA, sZ, sS]
          refine wpAnyH_done (by kernel_rfl) ?_ _
          go_wp2_with fail
          go_ret2
          exact ⟨⟨_, rfl⟩, hHeld⟩

set_option linter.unusedSimpArgs false in
set_option maxHeartbeats 4000000 in
set_option maxRecDepth 100000 in
theorem wholeU8 (t : Int) (l : List UInt8) (w : World) (hk : kindN t = 3) (hs : sizeN t = 8) (hl : l.length ≤ 1000000) :
    Calls Tryz.prog 34 #[.int .u8 t, .string (str l)] w (RefTo w (intV t l)) := by
  have hlt : letN t = 117 := by unfold letN; rw [hk]; rfl
  have hS := fun w => refSize_any t w
  have hK := fun w => refKind_any t w
  rw [hs] at hS
  rw [hlt] at hK
  have hN := fun w => refNumberD_any l w hl
  have hH := fun w => hexD_any (l.drop 2) w
  have IV : Hid (intV t l = ((anyU l).bind fun n => if n ≤ 18446744073709551615 then some n else none).map fun n : Nat => bytesL (n : Int) 8) := by
    show _ = _
    rw [uns_int t l 8 hs hk]
    rw [show (2 ^ (8 * 8) - 1 : Nat) = 18446744073709551615 from rfl, unsV_any 18446744073709551615 (by decide) l]
    generalize ((anyU l).bind fun n => if n ≤ 18446744073709551615 then some n else none) = o
    cases o <;> rfl
  have SF := slice_from l 2
  have ST : 2 ≤ l.length → ∀ w : World, (Instr.slice 9 (.string (str l)) none (some (.int .i64 2)) none).run Tryz.prog w = .ok (.string (str (l.take 2))) w := fun hk w => by
    have hs : (str l).size = l.length := by unfold str; simp [ByteArray.size]
    rw [run_slice_string_h (P := Tryz.prog) w 9 (str l) Tryz.underlying9 .i64 _ (by omega) (by rw [hs]; omega)]
    congr 2
    apply ByteArray.ext
    simp [str, ByteArray.data_extract]
  obtain ⟨s, HSL, htl, hsz, _⟩ := str_facts l
  rw [HSL.out] at hN SF ST ⊢
  rw [IV.out]
  have AM := fun n h => anyU_max l n h
  by_cases hx : Lib.hasPrefix l [48, 120] = true ∧ 2 < l.length
  · have hA : anyU l = hexV (l.drop 2) := by unfold anyU; rw [if_pos hx]
    rw [hA] at AM ⊢
    have g2 : (2 : Int) < (l.length : Int) := by omega
    have sf := SF (by omega)
    have st := ST (by omega)
    have t2 : l.take 2 = [48, 120] := by have := hx.1; rw [pfx2 l hx.2] at this; simpa using this
    rw [t2] at st
    have st' : ∀ w : World, (Instr.slice 9 (.string s) none (some (.int .i64 2)) none).run Tryz.prog w = .ok (.string ⟨#[48, 120]⟩) w := st
    have sf' : ∀ w : World, (Instr.slice 9 (.string s) (some (.int .i64 2)) none none).run Tryz.prog w = .ok (.string (str (l.drop 2))) w := sf
    clear SF ST st sf t2 hA hx IV
    generalize str (l.drop 2) = sx at *
    generalize hexV (l.drop 2) = v at *
    generalize decV 18446744073709551615 l = v0 at *
    obtain ⟨n0, b0, HN⟩ : ∃ (n0 : Int) (b0 : Bool), Hid (∀ w : World, Calls Tryz.prog 37 #[.string s] w fun e w' => e = .returned (.tuple #[.int .u64 n0, .bool b0]) ∧ w' = w) := by cases v0 with | none => exact ⟨_, _, hN⟩ | some m => exact ⟨_, _, hN⟩
    clear hN
    cases v with
    | none =>
      replace hH : (∀ w : World, Calls Tryz.prog 40 #[.string sx] w fun e w' => e = .returned (.tuple #[.int .u64 0, .bool false]) ∧ w' = w) := hH
      show Calls _ _ _ _ (RefTo w none)
      clear AM
      go_enter Tryz.func34, Tryz.ntmps34
      go_wp2_with fail
      refine (hS _).mono ?_
      rintro e w ⟨rfl, rfl⟩
      go_wp2_with fail
      refine (hK _).mono ?_
      rintro e w ⟨rfl, rfl⟩
      go_wp2_with fail
      refine (HN.out _).mono ?_
      rintro e w ⟨rfl, rfl⟩
      go_wp2_with fail
      refine (hH _).mono ?_
      rintro e w ⟨rfl, rfl⟩
      go_wp2_with fail
      refine wp_region_held_drew (S := fun x => Below w.heap.size w x) (by kernel_rfl) (Below.drew (Below.refl _ _)) (fun hHeld => ?_)
      refine tk 0 (.int .u64 0) rfl (.inl ⟨by rfl, ?_⟩) ?_
      · intro _ h; (try dsimp only at h); go_simp <;> first | decide | assumption
      try simp only [Act.put, gA, gS, gZ, sA, sZ, sS]
      refine tk 1 (.int .i64 8) rfl (.inl ⟨by rfl, ?_⟩) ?_
      · intro _ h; (try dsimp only at h); go_simp <;> first | decide | assumption
      try simp only [Act.put, gA, gS, gZ, sA, sZ, sS]
      refine tk 3 (.bool false) rfl (.inl ⟨by rfl, ?_⟩) ?_
      · intro _ h; (try dsimp only at h); go_simp <;> first | decide | assumption
      try simp only [Act.put, gA, gS, gZ, sA, sZ, sS]
      refine wpAnyH_ready (rs := [2]) (by kernel_rfl) (by simp) ?_
      refine AllReadyH.cons rfl (fun K' hK => ?_) AllReadyH.nil
      rw [if_pos (by rfl)]
      simp only [List.getElem_toArray, List.getElem_cons_succ, List.getElem_cons_zero]
      go_wp2_with fail
      refine (bytesD_any 0 8 _ (by decide)).mono ?_
      rintro e z ⟨⟨ba, bc, rfl, ht⟩, hbx⟩
      try go_wp2_with fail
      refine hK.out _ _ (Below.andThen hHeld hbx) (fun hHeld => ?_)
      clear hK K'
      try simp only [Act.put, gA, gS, gZ, sA, sZ, sS]
      refine tk 4 (.bool false) rfl (.inl ⟨by rfl, ?_⟩) ?_
      · intro _ h; (try dsimp only at h); go_simp <;> first | decide | assumption
      try simp only [Act.put, gA, gS, gZ, sA, sZ, sS]
      refine tk 5 undef rfl (.inr ⟨by rfl, rfl⟩) ?_
      try simp only [Act.put, gA, gS, gZ, sA, sZ, sS]
      refine tk 6 undef rfl (.inr ⟨by rfl, rfl⟩) ?_
      try simp only [Act.put, gA, gS, gZ, sA, sZ, sS]
      refine tk 7 undef rfl (.inr ⟨by rfl, rfl⟩) ?_
      try simp only [Act.put, gA, gS, gZ, sA, sZ, sS]
      refine tk 8 undef rfl (.inr ⟨by rfl, rfl⟩) ?_
      try simp only [Act.put, gA, gS, gZ, sA, sZ, sS]
      refine tk 9 undef rfl (.inr ⟨by rfl, rfl⟩) ?_
      try simp only [Act.put, gA, gS, gZ, sA, sZ, sS]
      refine tk 10 undef rfl (.inr ⟨by rfl, rfl⟩) ?_
      try simp only [Act.put, gA, gS, gZ, sA, sZ, sS]
      refine tk 11 undef rfl (.inr ⟨by rfl, rfl⟩) ?_
      try simp only [Act.put, gA, gS, gZ, sA, sZ, sS]
      refine tk 12 undef rfl (.inr ⟨by rfl, rfl⟩) ?_
      try simp only [Act.put, gA, gS, gZ, sA, sZ, sS]
      refine tk 13 (.bool false) rfl (.inl ⟨by rfl, ?_⟩) ?_
      · intro _ h; (try dsimp only at h); go_simp <;> first | decide | assumption
      try simp only [Act.put, gA, gS, gZ, sA, sZ, sS]
      refine tk 14 (.slice ba 8 bc) rfl (.inl ⟨by rfl, ?_⟩) ?_
      · intro _ h; (try dsimp only at h); go_simp <;> first | decide | assumption
      try simp only [Act.put, gA, gS, gZ, sA, sZ, sS]
      refine tk 15 (.bool false) rfl (.inl ⟨by rfl, ?_⟩) ?_
      · intro _ h; (try dsimp only at h); go_simp <;> first | decide | assumption
      try simp only [Act.put, gA, gS, gZ, sA, sZ, sS]
      refine wpAnyH_done (by kernel_rfl) ?_ _
      go_wp2_with fail
      go_ret2
      exact ⟨⟨_, rfl⟩, hHeld⟩
    | some n =>
      replace hH : (∀ w : World, Calls Tryz.prog 40 #[.string sx] w fun e w' => e = .returned (.tuple #[.int .u64 (n : Int), .bool true]) ∧ w' = w) := hH
      have nm := AM n rfl
      clear AM
      by_cases hle : n ≤ 18446744073709551615
      rotate_left
      · exfalso; omega
      show Calls _ _ _ _ (RefTo w (Option.map (fun n : Nat => bytesL (n : Int) 8) (if n ≤ 18446744073709551615 then some n else none)))
      rw [if_pos hle]
      obtain ⟨R, HR⟩ : ∃ R, Hid (some (bytesL (n : Int) 8) = R) := ⟨_, rfl⟩
      show Calls _ _ _ _ (RefTo w (some (bytesL (n : Int) 8)))
      rw [HR.out]
      clear hle nm
      go_enter Tryz.func34, Tryz.ntmps34
      go_wp2_with fail
      refine (hS _).mono ?_
      rintro e w ⟨rfl, rfl⟩
      go_wp2_with fail
      refine (hK _).mono ?_
      rintro e w ⟨rfl, rfl⟩
      go_wp2_with fail
      refine (HN.out _).mono ?_
      rintro e w ⟨rfl, rfl⟩
      go_wp2_with fail
      refine (hH _).mono ?_
      rintro e w ⟨rfl, rfl⟩
      go_wp2_with fail
      refine wp_region_held_drew (S := fun x => Below w.heap.size w x) (by kernel_rfl) (Below.drew (Below.refl _ _)) (fun hHeld => ?_)
      refine tk 0 (.int .u64 (n : Int)) rfl (.inl ⟨by rfl, ?_⟩) ?_
      · intro _ h; (try dsimp only at h); go_simp <;> first | decide | assumption
      try simp only [Act.put, gA, gS, gZ, sA, sZ, sS]
      refine tk 1 (.int .i64 8) rfl (.inl ⟨by rfl, ?_⟩) ?_
      · intro _ h; (try dsimp only at h); go_simp <;> first | decide | assumption
      try simp only [Act.put, gA, gS, gZ, sA, sZ, sS]
      refine tk 3 (.bool true) rfl (.inl ⟨by rfl, ?_⟩) ?_
      · intro _ h; (try dsimp only at h); go_simp <;> first | decide | assumption
      try simp only [Act.put, gA, gS, gZ, sA, sZ, sS]
      refine wpAnyH_ready (rs := [2]) (by kernel_rfl) (by simp) ?_
      refine AllReadyH.cons rfl (fun K' hK => ?_) AllReadyH.nil
      rw [if_pos (by rfl)]
      simp only [List.getElem_toArray, List.getElem_cons_succ, List.getElem_cons_zero]
      go_wp2_with fail
      refine (bytesD_any (n : Int) 8 _ (by decide)).mono ?_
      rintro e z ⟨⟨ba, bc, rfl, ht⟩, hbx⟩
      try go_wp2_with fail
      have hb0 := hHeld
      refine hK.out _ _ (Below.andThen hHeld hbx) (fun hHeld => ?_)
      clear hK K'
      try simp only [Act.put, gA, gS, gZ, sA, sZ, sS]
      refine tk 4 (.bool true) rfl (.inl ⟨by rfl, ?_⟩) ?_
      · intro _ h; (try dsimp only at h); go_simp <;> first | decide | assumption
      try simp only [Act.put, gA, gS, gZ, sA, sZ, sS]
      refine tk 5 (.int .i64 64) rfl (.inl ⟨by rfl, ?_⟩) ?_
      · intro _ h; (try dsimp only at h); go_simp <;> first | decide | assumption
      try simp only [Act.put, gA, gS, gZ, sA, sZ, sS]
      refine tk 6 (.bool true) rfl (.inl ⟨by rfl, ?_⟩) ?_
      · intro _ h; (try dsimp only at h); go_simp <;> first | decide | assumption
      try simp only [Act.put, gA, gS, gZ, sA, sZ, sS]
      refine tk 7 (.bool true) rfl (.inl ⟨by rfl, ?_⟩) ?_
      · intro _ h; (try dsimp only at h); go_simp <;> first | decide | assumption
      try simp only [Act.put, gA, gS, gZ, sA, sZ, sS]
      refine tk 8 undef rfl (.inr ⟨by rfl, rfl⟩) ?_
      try simp only [Act.put, gA, gS, gZ, sA, sZ, sS]
      refine tk 9 undef rfl (.inr ⟨by rfl, rfl⟩) ?_
      try simp only [Act.put, gA, gS, gZ, sA, sZ, sS]
      refine tk 10 undef rfl (.inr ⟨by rfl, rfl⟩) ?_
      try simp only [Act.put, gA, gS, gZ, sA, sZ, sS]
      refine tk 11 undef rfl (.inr ⟨by rfl, rfl⟩) ?_
      try simp only [Act.put, gA, gS, gZ, sA, sZ, sS]
      refine tk 12 (.bool true) rfl (.inl ⟨by rfl, ?_⟩) ?_
      · intro _ h; (try dsimp only at h); go_simp <;> first | decide | assumption
      try simp only [Act.put, gA, gS, gZ, sA, sZ, sS]
      refine tk 13 (.bool true) rfl (.inl ⟨by rfl, ?_⟩) ?_
      · intro _ h; (try dsimp only at h); go_simp <;> first | decide | assumption
      try simp only [Act.put, gA, gS, gZ, sA, sZ, sS]
      refine tk 14 (.slice ba 8 bc) rfl (.inl ⟨by rfl, ?_⟩) ?_
      · intro _ h; (try dsimp only at h); go_simp <;> first | decide | assumption
      try simp only [Act.put, gA, gS, gZ, sA, sZ, sS]
      refine tk 15 (.bool true) rfl (.inl ⟨by rfl, ?_⟩) ?_
      · intro _ h; (try dsimp only at h); go_simp <;> first | decide | assumption
      try simp only [Act.put, gA, gS, gZ, sA, sZ, sS]
      refine wpAnyH_done (by kernel_rfl) ?_ _
      go_wp2_with fail
      go_ret2
      rw [← HR.out]
      exact ⟨⟨_, _, _, rfl, ⟨ht.row, ht.le, ht.max, fun hp => by obtain ⟨g, e1, e2, e3⟩ := ht.own hp; exact ⟨g, e1, Nat.le_trans hb0.size e2, e3⟩⟩⟩, hHeld⟩
  · have hA : anyU l = decV 18446744073709551615 l := by unfold anyU; rw [if_neg hx]
    rw [hA] at AM ⊢
    have ways : (¬ (2 : Int) < (l.length : Int)) ∨ ((2 : Int) < (l.length : Int) ∧ ∃ q : ByteArray, (∀ w : World, (Instr.slice 9 (.string s) none (some (.int .i64 2)) none).run Tryz.prog w = .ok (.string q) w) ∧ (q.toList == [48, 120]) = false) := by
      by_cases h2 : 2 < l.length
      · refine .inr ⟨by omega, str (l.take 2), ST (by omega), ?_⟩
        rw [show (str (l.take 2)).toList = l.take 2 from by rw [Lib.toList_data]; rfl, ← pfx2 l h2]
        have : ¬ Lib.hasPrefix l [48, 120] = true := fun h => hx ⟨h, h2⟩
        simpa using this
      · exact .inl (by omega)
    clear SF ST hA hx hH IV
    generalize decV 18446744073709551615 l = v at *
    rcases ways with g2 | ⟨g2, q, st, nq⟩
    · cases v with
      | none =>
        replace hN : (∀ w : World, Calls Tryz.prog 37 #[.string s] w fun e w' => e = .returned (.tuple #[.int .u64 0, .bool false]) ∧ w' = w) := hN
        have HN : Hid _ := hN
        clear hN
        show Calls _ _ _ _ (RefTo w none)
        clear AM
        go_enter Tryz.func34, Tryz.ntmps34
        go_wp2_with fail
        refine (hS _).mono ?_
        rintro e w ⟨rfl, rfl⟩
        go_wp2_with fail
        refine (hK _).mono ?_
        rintro e w ⟨rfl, rfl⟩
        go_wp2_with fail
        refine (HN.out _).mono ?_
        rintro e w ⟨rfl, rfl⟩
        go_wp2_with fail
        refine wp_region_held_drew (S := fun x => Below w.heap.size w x) (by kernel_rfl) (Below.drew (Below.refl _ _)) (fun hHeld => ?_)
        refine tk 0 (.int .u64 0) rfl (.inl ⟨by rfl, ?_⟩) ?_
        · intro _ h; (try dsimp only at h); go_simp <;> first | decide | assumption
        try simp only [Act.put, gA, gS, gZ, sA, sZ, sS]
        refine tk 1 (.int .i64 8) rfl (.inl ⟨by rfl, ?_⟩) ?_
        · intro _ h; (try dsimp only at h); go_simp <;> first | decide | assumption
        try simp only [Act.put, gA, gS, gZ, sA, sZ, sS]
        refine tk 3 (.bool false) rfl (.inl ⟨by rfl, ?_⟩) ?_
        · intro _ h; (try dsimp only at h); go_simp <;> first | decide | assumption
        try simp only [Act.put, gA, gS, gZ, sA, sZ, sS]
        refine wpAnyH_ready (rs := [2]) (by kernel_rfl) (by simp) ?_
        refine AllReadyH.cons rfl (fun K' hK => ?_) AllReadyH.nil
        rw [if_pos (by rfl)]
        simp only [List.getElem_toArray, List.getElem_cons_succ, List.getElem_cons_zero]
        go_wp2_with fail
        refine (bytesD_any 0 8 _ (by decide)).mono ?_
        rintro e z ⟨⟨ba, bc, rfl, ht⟩, hbx⟩
        try go_wp2_with fail
        refine hK.out _ _ (Below.andThen hHeld hbx) (fun hHeld => ?_)
        clear hK K'
        try simp only [Act.put, gA, gS, gZ, sA, sZ, sS]
        refine tk 4 (.bool false) rfl (.inl ⟨by rfl, ?_⟩) ?_
        · intro _ h; (try dsimp only at h); go_simp <;> first | decide | assumption
        try simp only [Act.put, gA, gS, gZ, sA, sZ, sS]
        refine tk 5 undef rfl (.inr ⟨by rfl, rfl⟩) ?_
        try simp only [Act.put, gA, gS, gZ, sA, sZ, sS]
        refine tk 6 undef rfl (.inr ⟨by rfl, rfl⟩) ?_
        try simp only [Act.put, gA, gS, gZ, sA, sZ, sS]
        refine tk 7 undef rfl (.inr ⟨by rfl, rfl⟩) ?_
        try simp only [Act.put, gA, gS, gZ, sA, sZ, sS]
        refine tk 8 undef rfl (.inr ⟨by rfl, rfl⟩) ?_
        try simp only [Act.put, gA, gS, gZ, sA, sZ, sS]
        refine tk 9 undef rfl (.inr ⟨by rfl, rfl⟩) ?_
        try simp only [Act.put, gA, gS, gZ, sA, sZ, sS]
        refine tk 10 undef rfl (.inr ⟨by rfl, rfl⟩) ?_
        try simp only [Act.put, gA, gS, gZ, sA, sZ, sS]
        refine tk 11 undef rfl (.inr ⟨by rfl, rfl⟩) ?_
        try simp only [Act.put, gA, gS, gZ, sA, sZ, sS]
        refine tk 12 undef rfl (.inr ⟨by rfl, rfl⟩) ?_
        try simp only [Act.put, gA, gS, gZ, sA, sZ, sS]
        refine tk 13 (.bool false) rfl (.inl ⟨by rfl, ?_⟩) ?_
        · intro _ h; (try dsimp only at h); go_simp <;> first | decide | assumption
        try simp only [Act.put, gA, gS, gZ, sA, sZ, sS]
        refine tk 14 (.slice ba 8 bc) rfl (.inl ⟨by rfl, ?_⟩) ?_
        · intro _ h; (try dsimp only at h); go_simp <;> first | decide | assumption
        try simp only [Act.put, gA, gS, gZ, sA, sZ, sS]
        refine tk 15 (.bool false) rfl (.inl ⟨by rfl, ?_⟩) ?_
        · intro _ h; (try dsimp only at h); go_simp <;> first | decide | assumption
        try simp only [Act.put, gA, gS, gZ, sA, sZ, sS]
        refine wpAnyH_done (by kernel_rfl) ?_ _
        go_wp2_with fail
        go_ret2
        exact ⟨⟨_, rfl⟩, hHeld⟩
      | some n =>
        replace hN : (∀ w : World, Calls Tryz.prog 37 #[.string s] w fun e w' => e = .returned (.tuple #[.int .u64 (n : Int), .bool true]) ∧ w' = w) := hN
        have HN : Hid _ := hN
        clear hN
        have nm := AM n rfl
        clear AM
        by_cases hle : n ≤ 18446744073709551615
        rotate_left
        · exfalso; omega
        show Calls _ _ _ _ (RefTo w (Option.map (fun n : Nat => bytesL (n : Int) 8) (if n ≤ 18446744073709551615 then some n else none)))
        rw [if_pos hle]
        obtain ⟨R, HR⟩ : ∃ R, Hid (some (bytesL (n : Int) 8) = R) := ⟨_, rfl⟩
        show Calls _ _ _ _ (RefTo w (some (bytesL (n : Int) 8)))
        rw [HR.out]
        clear hle nm
        go_enter Tryz.func34, Tryz.ntmps34
        go_wp2_with fail
        refine (hS _).mono ?_
        rintro e w ⟨rfl, rfl⟩
        go_wp2_with fail
        refine (hK _).mono ?_
        rintro e w ⟨rfl, rfl⟩
        go_wp2_with fail
        refine (HN.out _).mono ?_
        rintro e w ⟨rfl, rfl⟩
        go_wp2_with fail
        refine wp_region_held_drew (S := fun x => Below w.heap.size w x) (by kernel_rfl) (Below.drew (Below.refl _ _)) (fun hHeld => ?_)
        refine tk 0 (.int .u64 (n : Int)) rfl (.inl ⟨by rfl, ?_⟩) ?_
        · intro _ h; (try dsimp only at h); go_simp <;> first | decide | assumption
        try simp only [Act.put, gA, gS, gZ, sA, sZ, sS]
        refine tk 1 (.int .i64 8) rfl (.inl ⟨by rfl, ?_⟩) ?_
        · intro _ h; (try dsimp only at h); go_simp <;> first | decide | assumption
        try simp only [Act.put, gA, gS, gZ, sA, sZ, sS]
        refine tk 3 (.bool true) rfl (.inl ⟨by rfl, ?_⟩) ?_
        · intro _ h; (try dsimp only at h); go_simp <;> first | decide | assumption
        try simp only [Act.put, gA, gS, gZ, sA, sZ, sS]
        refine wpAnyH_ready (rs := [2]) (by kernel_rfl) (by simp) ?_
        refine AllReadyH.cons rfl (fun K' hK => ?_) AllReadyH.nil
        rw [if_pos (by rfl)]
        simp only [List.getElem_toArray, List.getElem_cons_succ, List.getElem_cons_zero]
        go_wp2_with fail
        refine (bytesD_any (n : Int) 8 _ (by decide)).mono ?_
        rintro e z ⟨⟨ba, bc, rfl, ht⟩, hbx⟩
        try go_wp2_with fail
        have hb0 := hHeld
        refine hK.out _ _ (Below.andThen hHeld hbx) (fun hHeld => ?_)
        clear hK K'
        try simp only [Act.put, gA, gS, gZ, sA, sZ, sS]
        refine tk 4 (.bool true) rfl (.inl ⟨by rfl, ?_⟩) ?_
        · intro _ h; (try dsimp only at h); go_simp <;> first | decide | assumption
        try simp only [Act.put, gA, gS, gZ, sA, sZ, sS]
        refine tk 5 (.int .i64 64) rfl (.inl ⟨by rfl, ?_⟩) ?_
        · intro _ h; (try dsimp only at h); go_simp <;> first | decide | assumption
        try simp only [Act.put, gA, gS, gZ, sA, sZ, sS]
        refine tk 6 (.bool true) rfl (.inl ⟨by rfl, ?_⟩) ?_
        · intro _ h; (try dsimp only at h); go_simp <;> first | decide | assumption
        try simp only [Act.put, gA, gS, gZ, sA, sZ, sS]
        refine tk 7 (.bool true) rfl (.inl ⟨by rfl, ?_⟩) ?_
        · intro _ h; (try dsimp only at h); go_simp <;> first | decide | assumption
        try simp only [Act.put, gA, gS, gZ, sA, sZ, sS]
        refine tk 8 undef rfl (.inr ⟨by rfl, rfl⟩) ?_
        try simp only [Act.put, gA, gS, gZ, sA, sZ, sS]
        refine tk 9 undef rfl (.inr ⟨by rfl, rfl⟩) ?_
        try simp only [Act.put, gA, gS, gZ, sA, sZ, sS]
        refine tk 10 undef rfl (.inr ⟨by rfl, rfl⟩) ?_
        try simp only [Act.put, gA, gS, gZ, sA, sZ, sS]
        refine tk 11 undef rfl (.inr ⟨by rfl, rfl⟩) ?_
        try simp only [Act.put, gA, gS, gZ, sA, sZ, sS]
        refine tk 12 (.bool true) rfl (.inl ⟨by rfl, ?_⟩) ?_
        · intro _ h; (try dsimp only at h); go_simp <;> first | decide | assumption
        try simp only [Act.put, gA, gS, gZ, sA, sZ, sS]
        refine tk 13 (.bool true) rfl (.inl ⟨by rfl, ?_⟩) ?_
        · intro _ h; (try dsimp only at h); go_simp <;> first | decide | assumption
        try simp only [Act.put, gA, gS, gZ, sA, sZ, sS]
        refine tk 14 (.slice ba 8 bc) rfl (.inl ⟨by rfl, ?_⟩) ?_
        · intro _ h; (try dsimp only at h); go_simp <;> first | decide | assumption
        try simp only [Act.put, gA, gS, gZ, sA, sZ, sS]
        refine tk 15 (.bool true) rfl (.inl ⟨by rfl, ?_⟩) ?_
        · intro _ h; (try dsimp only at h); go_simp <;> first | decide | assumption
        try simp only [Act.put, gA, gS, gZ, sA, sZ, sS]
        refine wpAnyH_done (by kernel_rfl) ?_ _
        go_wp2_with fail
        go_ret2
        rw [← HR.out]
        exact ⟨⟨_, _, _, rfl, ⟨ht.row, ht.le, ht.max, fun hp => by obtain ⟨g, e1, e2, e3⟩ := ht.own hp; exact ⟨g, e1, Nat.le_trans hb0.size e2, e3⟩⟩⟩, hHeld⟩
    · cases v with
      | none =>
        replace hN : (∀ w : World, Calls Tryz.prog 37 #[.string s] w fun e w' => e = .returned (.tuple #[.int .u64 0, .bool false]) ∧ w' = w) := hN
        have HN : Hid _ := hN
        clear hN
        show Calls _ _ _ _ (RefTo w none)
        clear AM
        go_enter Tryz.func34, Tryz.ntmps34
        go_wp2_with fail
        refine (hS _).mono ?_
        rintro e w ⟨rfl, rfl⟩
        go_wp2_with fail
        refine (hK _).mono ?_
        rintro e w ⟨rfl, rfl⟩
        go_wp2_with fail
        refine (HN.out _).mono ?_
        rintro e w ⟨rfl, rfl⟩
        go_wp2_with fail
        refine wp_region_held_drew (S := fun x => Below w.heap.size w x) (by kernel_rfl) (Below.drew (Below.refl _ _)) (fun hHeld => ?_)
        refine tk 0 (.int .u64 0) rfl (.inl ⟨by rfl, ?_⟩) ?_
        · intro _ h; (try dsimp only at h); go_simp <;> first | decide | assumption
        try simp only [Act.put, gA, gS, gZ, sA, sZ, sS]
        refine tk 1 (.int .i64 8) rfl (.inl ⟨by rfl, ?_⟩) ?_
        · intro _ h; (try dsimp only at h); go_simp <;> first | decide | assumption
        try simp only [Act.put, gA, gS, gZ, sA, sZ, sS]
        refine tk 3 (.bool false) rfl (.inl ⟨by rfl, ?_⟩) ?_
        · intro _ h; (try dsimp only at h); go_simp <;> first | decide | assumption
        try simp only [Act.put, gA, gS, gZ, sA, sZ, sS]
        refine wpAnyH_ready (rs := [2]) (by kernel_rfl) (by simp) ?_
        refine AllReadyH.cons rfl (fun K' hK => ?_) AllReadyH.nil
        rw [if_pos (by rfl)]
        simp only [List.getElem_toArray, List.getElem_cons_succ, List.getElem_cons_zero]
        go_wp2_with fail
        refine (bytesD_any 0 8 _ (by decide)).mono ?_
        rintro e z ⟨⟨ba, bc, rfl, ht⟩, hbx⟩
        try go_wp2_with fail
        refine hK.out _ _ (Below.andThen hHeld hbx) (fun hHeld => ?_)
        clear hK K'
        try simp only [Act.put, gA, gS, gZ, sA, sZ, sS]
        refine tk 4 (.bool false) rfl (.inl ⟨by rfl, ?_⟩) ?_
        · intro _ h; (try dsimp only at h); go_simp <;> first | decide | assumption
        try simp only [Act.put, gA, gS, gZ, sA, sZ, sS]
        refine tk 5 undef rfl (.inr ⟨by rfl, rfl⟩) ?_
        try simp only [Act.put, gA, gS, gZ, sA, sZ, sS]
        refine tk 6 undef rfl (.inr ⟨by rfl, rfl⟩) ?_
        try simp only [Act.put, gA, gS, gZ, sA, sZ, sS]
        refine tk 7 undef rfl (.inr ⟨by rfl, rfl⟩) ?_
        try simp only [Act.put, gA, gS, gZ, sA, sZ, sS]
        refine tk 8 undef rfl (.inr ⟨by rfl, rfl⟩) ?_
        try simp only [Act.put, gA, gS, gZ, sA, sZ, sS]
        refine tk 9 undef rfl (.inr ⟨by rfl, rfl⟩) ?_
        try simp only [Act.put, gA, gS, gZ, sA, sZ, sS]
        refine tk 10 undef rfl (.inr ⟨by rfl, rfl⟩) ?_
        try simp only [Act.put, gA, gS, gZ, sA, sZ, sS]
        refine tk 11 undef rfl (.inr ⟨by rfl, rfl⟩) ?_
        try simp only [Act.put, gA, gS, gZ, sA, sZ, sS]
        refine tk 12 undef rfl (.inr ⟨by rfl, rfl⟩) ?_
        try simp only [Act.put, gA, gS, gZ, sA, sZ, sS]
        refine tk 13 (.bool false) rfl (.inl ⟨by rfl, ?_⟩) ?_
        · intro _ h; (try dsimp only at h); go_simp <;> first | decide | assumption
        try simp only [Act.put, gA, gS, gZ, sA, sZ, sS]
        refine tk 14 (.slice ba 8 bc) rfl (.inl ⟨by rfl, ?_⟩) ?_
        · intro _ h; (try dsimp only at h); go_simp <;> first | decide | assumption
        try simp only [Act.put, gA, gS, gZ, sA, sZ, sS]
        refine tk 15 (.bool false) rfl (.inl ⟨by rfl, ?_⟩) ?_
        · intro _ h; (try dsimp only at h); go_simp <;> first | decide | assumption
        try simp only [Act.put, gA, gS, gZ, sA, sZ, sS]
        refine wpAnyH_done (by kernel_rfl) ?_ _
        go_wp2_with fail
        go_ret2
        exact ⟨⟨_, rfl⟩, hHeld⟩
      | some n =>
        replace hN : (∀ w : World, Calls Tryz.prog 37 #[.string s] w fun e w' => e = .returned (.tuple #[.int .u64 (n : Int), .bool true]) ∧ w' = w) := hN
        have HN : Hid _ := hN
        clear hN
        have nm := AM n rfl
        clear AM
        by_cases hle : n ≤ 18446744073709551615
        rotate_left
        · exfalso; omega
        show Calls _ _ _ _ (RefTo w (Option.map (fun n : Nat => bytesL (n : Int) 8) (if n ≤ 18446744073709551615 then some n else none)))
        rw [if_pos hle]
        obtain ⟨R, HR⟩ : ∃ R, Hid (some (bytesL (n : Int) 8) = R) := ⟨_, rfl⟩
        show Calls _ _ _ _ (RefTo w (some (bytesL (n : Int) 8)))
        rw [HR.out]
        clear hle nm
        go_enter Tryz.func34, Tryz.ntmps34
        go_wp2_with fail
        refine (hS _).mono ?_
        rintro e w ⟨rfl, rfl⟩
        go_wp2_with fail
        refine (hK _).mono ?_
        rintro e w ⟨rfl, rfl⟩
        go_wp2_with fail
        refine (HN.out _).mono ?_
        rintro e w ⟨rfl, rfl⟩
        go_wp2_with fail
        refine wp_region_held_drew (S := fun x => Below w.heap.size w x) (by kernel_rfl) (Below.drew (Below.refl _ _)) (fun hHeld => ?_)
        refine tk 0 (.int .u64 (n : Int)) rfl (.inl ⟨by rfl, ?_⟩) ?_
        · intro _ h; (try dsimp only at h); go_simp <;> first | decide | assumption
        try simp only [Act.put, gA, gS, gZ, sA, sZ, sS]
        refine tk 1 (.int .i64 8) rfl (.inl ⟨by rfl, ?_⟩) ?_
        · intro _ h; (try dsimp only at h); go_simp <;> first | decide | assumption
        try simp only [Act.put, gA, gS, gZ, sA, sZ, sS]
        refine tk 3 (.bool true) rfl (.inl ⟨by rfl, ?_⟩) ?_
        · intro _ h; (try dsimp only at h); go_simp <;> first | decide | assumption
        try simp only [Act.put, gA, gS, gZ, sA, sZ, sS]
        refine wpAnyH_ready (rs := [2]) (by kernel_rfl) (by simp) ?_
        refine AllReadyH.cons rfl (fun K' hK => ?_) AllReadyH.nil
        rw [if_pos (by rfl)]
        simp only [List.getElem_toArray, List.getElem_cons_succ, List.getElem_cons_zero]
        go_wp2_with fail
        refine (bytesD_any (n : Int) 8 _ (by decide)).mono ?_
        rintro e z ⟨⟨ba, bc, rfl, ht⟩, hbx⟩
        try go_wp2_with fail
        have hb0 := hHeld
        refine hK.out _ _ (Below.andThen hHeld hbx) (fun hHeld => ?_)
        clear hK K'
        try simp only [Act.put, gA, gS, gZ, sA, sZ, sS]
        refine tk 4 (.bool true) rfl (.inl ⟨by rfl, ?_⟩) ?_
        · intro _ h; (try dsimp only at h); go_simp <;> first | decide | assumption
        try simp only [Act.put, gA, gS, gZ, sA, sZ, sS]
        refine tk 5 (.int .i64 64) rfl (.inl ⟨by rfl, ?_⟩) ?_
        · intro _ h; (try dsimp only at h); go_simp <;> first | decide | assumption
        try simp only [Act.put, gA, gS, gZ, sA, sZ, sS]
        refine tk 6 (.bool true) rfl (.inl ⟨by rfl, ?_⟩) ?_
        · intro _ h; (try dsimp only at h); go_simp <;> first | decide | assumption
        try simp only [Act.put, gA, gS, gZ, sA, sZ, sS]
        refine tk 7 (.bool true) rfl (.inl ⟨by rfl, ?_⟩) ?_
        · intro _ h; (try dsimp only at h); go_simp <;> first | decide | assumption
        try simp only [Act.put, gA, gS, gZ, sA, sZ, sS]
        refine tk 8 undef rfl (.inr ⟨by rfl, rfl⟩) ?_
        try simp only [Act.put, gA, gS, gZ, sA, sZ, sS]
        refine tk 9 undef rfl (.inr ⟨by rfl, rfl⟩) ?_
        try simp only [Act.put, gA, gS, gZ, sA, sZ, sS]
        refine tk 10 undef rfl (.inr ⟨by rfl, rfl⟩) ?_
        try simp only [Act.put, gA, gS, gZ, sA, sZ, sS]
        refine tk 11 undef rfl (.inr ⟨by rfl, rfl⟩) ?_
        try simp only [Act.put, gA, gS, gZ, sA, sZ, sS]
        refine tk 12 (.bool true) rfl (.inl ⟨by rfl, ?_⟩) ?_
        · intro _ h; (try dsimp only at h); go_simp <;> first | decide | assumption
        try simp only [Act.put, gA, gS, gZ, sA, sZ, sS]
        refine tk 13 (.bool true) rfl (.inl ⟨by rfl, ?_⟩) ?_
        · intro _ h; (try dsimp only at h); go_simp <;> first | decide | assumption
        try simp only [Act.put, gA, gS, gZ, sA, sZ, sS]
        refine tk 14 (.slice ba 8 bc) rfl (.inl ⟨by rfl, ?_⟩) ?_
        · intro _ h; (try dsimp only at h); go_simp <;> first | decide | assumption
        try simp only [Act.put, gA, gS, gZ, sA, sZ, sS]
        refine tk 15 (.bool true) rfl (.inl ⟨by rfl, ?_⟩) ?_
        · intro _ h; (try dsimp only at h); go_simp <;> first | decide | assumption
        try simp only [Act.put, gA, gS, gZ, sA, sZ, sS]
        refine wpAnyH_done (by kernel_rfl) ?_ _
        go_wp2_with fail
        go_ret2
        rw [← HR.out]
        exact ⟨⟨_, _, _, rfl, ⟨ht.row, ht.le, ht.max, fun hp => by obtain ⟨g, e1, e2, e3⟩ := ht.own hp; exact ⟨g, e1, Nat.le_trans hb0.size e2, e3⟩⟩⟩, hHeld⟩
end Go.Proofs.YtkfmmpolcjbnbaaGreatDoor
