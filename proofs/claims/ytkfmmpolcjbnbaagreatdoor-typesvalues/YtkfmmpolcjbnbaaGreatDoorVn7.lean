/-
  The walk of the document's real of a NaN's text.
-/
import Derived.Test.YtkfmmpolcjbnbaaGreatDoorVn1
import Derived.Test.YtkfmmpolcjbnbaaGreatDoorVn3
import Derived.Test.YtkfmmpolcjbnbaaGreatDoorVn5
import Derived.Test.YtkfmmpolcjbnbaaGreatDoorRfw
import Derived.Test.YtkfmmpolcjbnbaaGreatDoorRef1
namespace Go.Proofs.YtkfmmpolcjbnbaaGreatDoor
open Pl Go.RowKit

set_option linter.unusedSimpArgs false in
set_option maxHeartbeats 4000000 in
set_option maxRecDepth 100000 in
theorem realN64 (l : List UInt8) (w : World) (hl : l.length = 20) (hp : l.take 4 = [110, 97, 110, 58]) :
    Calls Tryz.prog 35 #[.int .u8 17, .string (str l)] w (RefTo w ((nan64V (l.drop 4)).map fun n : Nat => bytesL (n : Int) 8)) := by
  have hS : ∀ w : World, Calls Tryz.prog 63 #[.int .u8 17] w fun e w' => e = .returned (.tuple #[.int .i64 8, .bool true]) ∧ w' = w := fun w => refSize_any 17 w
  have hH := fun w => hexD_any (l.drop 4) w
  have hr : (l.drop 4).length = 16 := by rw [List.length_drop, hl]
  have sf := slice_from l 4 (by omega)
  have st : ∀ w : World, (Instr.slice 9 (.string (str l)) none (some (.int .i64 4)) none).run Tryz.prog w = .ok (.string ⟨#[110, 97, 110, 58]⟩) w := fun w => by
    have hs : (str l).size = l.length := by unfold str; simp [ByteArray.size]
    rw [run_slice_string_h (P := Tryz.prog) w 9 (str l) Tryz.underlying9 .i64 _ (by omega) (by rw [hs]; omega)]
    congr 2
    apply ByteArray.ext
    rw [show (⟨#[110, 97, 110, 58]⟩ : ByteArray) = str (l.take 4) from by rw [hp]; rfl]
    simp [str, ByteArray.data_extract]
  obtain ⟨s, HSL, htl, hsz, _⟩ := str_facts l
  rw [HSL.out] at sf st ⊢
  have sf' : ∀ w : World, (Instr.slice 9 (.string s) (some (.int .i64 4)) none none).run Tryz.prog w = .ok (.string (str (l.drop 4))) w := sf
  have b1 : ((l.length : Int) == 20) = true := by simp; omega
  have HV : hexV (l.drop 4) = hexF true 0 (l.drop 4) := by unfold hexV; rw [if_neg (by rintro (h | h); rw [h] at hr; simp at hr; omega)]
  rw [HV] at hH
  unfold nan64V
  rw [if_pos hr]
  have LT : ∀ n, hexF true 0 (l.drop 4) = some n → n < 18446744073709551616 := fun n hn => by have := hexF_lt true _ 0 n hn; rw [hr] at this; exact this
  have SAME : ∀ n, hexF true 0 (l.drop 4) = some n → _ := fun n h => hex_same (l.drop 4) n h
  have FT : ∀ n, hexF false 0 (l.drop 4) = some n → hexF true 0 (l.drop 4) = some n := fun n h => hexF_ft _ 0 n h
  rw [hr] at SAME
  clear hp sf HV hl
  obtain ⟨sr, HSR⟩ : ∃ x, Hid (str (l.drop 4) = x) := ⟨_, rfl⟩
  have tl : sr.toList = l.drop 4 := by rw [← HSR.out, Lib.toList_data]; rfl
  rw [HSR.out] at hH sf'
  cases hx : hexF true 0 (l.drop 4) with
  | none =>
    have hf : hexF false 0 (l.drop 4) = none := by cases h : hexF false 0 (l.drop 4) with | none => rfl | some n => rw [FT n h] at hx; cases hx
    rw [hf]
    rw [hx] at hH
    replace hH : ∀ w : World, Calls Tryz.prog 40 #[.string sr] w fun e w' => e = .returned (.tuple #[.int .u64 0, .bool false]) ∧ w' = w := hH
    show Calls _ _ _ _ (RefTo w none)
    clear LT SAME FT hx hf
    go_enter Tryz.func35, Tryz.ntmps35
    go_wp2_with fail
    refine (hS _).mono ?_
    rintro e w ⟨rfl, rfl⟩
    go_wp2_with fail
    refine (form64 _).mono ?_
    rintro e w ⟨rfl, rfl⟩
    go_wp2_with fail
    refine (hH _).mono ?_
    rintro e w ⟨rfl, rfl⟩
    go_wp2_with fail
    refine (bytesD_any _ 8 _ (by decide)).mono ?_
    rintro e w1 ⟨⟨ba, bc, rfl, ht⟩, hb1⟩
    have hbz : ∃ bz, bz = bytesL 0 8 := ⟨_, rfl⟩
    obtain ⟨bz, EB⟩ := hbz
    rw [← EB] at ht
    go_wp2_with fail
    refine wp_region_held_drew (S := fun x => Below w1.heap.size w1 x) (by kernel_rfl) (Below.drew (Below.refl _ _)) (fun hHeld => ?_)
    refine tk 0 (.slice ba 8 bc) rfl (.inl ⟨by rfl, ?_⟩) ?_
    · intro _ h; (try dsimp only at h); go_simp <;> first | decide | assumption
    try simp only [Act.put, gA, gS, gZ, sA, sZ, sS]
    refine tk 1 (.bool false) rfl (.inl ⟨by rfl, ?_⟩) ?_
    · intro _ h; (try dsimp only at h); go_simp <;> first | decide | assumption
    try simp only [Act.put, gA, gS, gZ, sA, sZ, sS]
    refine tk 2 (.bool false) rfl (.inl ⟨by rfl, ?_⟩) ?_
    · intro _ h; (try dsimp only at h); go_simp <;> first | decide | assumption
    try simp only [Act.put, gA, gS, gZ, sA, sZ, sS]
    refine tk 3 undef rfl (.inr ⟨by rfl, rfl⟩) ?_
    try simp only [Act.put, gA, gS, gZ, sA, sZ, sS]
    refine tk 4 undef rfl (.inr ⟨by rfl, rfl⟩) ?_
    try simp only [Act.put, gA, gS, gZ, sA, sZ, sS]
    refine wpAnyH_ready (rs := [5]) (by kernel_rfl) (by simp) ?_
    refine AllReadyH.cons rfl (fun K' hK => ?_) AllReadyH.nil
    go_simp
    refine hK.out _ _ (by assumption) (fun hHeld => ?_)
    clear hK K'
    try simp only [Act.put, gA, gS, gZ, sA, sZ, sS]
    refine tk 6 (.bool false) rfl (.inl ⟨by rfl, ?_⟩) ?_
    · intro _ h; (try dsimp only at h); go_simp <;> first | decide | assumption
    try simp only [Act.put, gA, gS, gZ, sA, sZ, sS]
    refine tk 7 (.bool false) rfl (.inl ⟨by rfl, ?_⟩) ?_
    · intro _ h; (try dsimp only at h); go_simp <;> first | decide | assumption
    try simp only [Act.put, gA, gS, gZ, sA, sZ, sS]
    refine tk 8 undef rfl (.inr ⟨by rfl, rfl⟩) ?_
    try simp only [Act.put, gA, gS, gZ, sA, sZ, sS]
    refine tk 9 undef rfl (.inr ⟨by rfl, rfl⟩) ?_
    try simp only [Act.put, gA, gS, gZ, sA, sZ, sS]
    refine tk 10 undef rfl (.inr ⟨by rfl, rfl⟩) ?_
    try simp only [Act.put, gA, gS, gZ, sA, sZ, sS]
    refine tk 12 undef rfl (.inr ⟨by rfl, rfl⟩) ?_
    try simp only [Act.put, gA, gS, gZ, sA, sZ, sS]
    refine tk 13 undef rfl (.inr ⟨by rfl, rfl⟩) ?_
    try simp only [Act.put, gA, gS, gZ, sA, sZ, sS]
    refine wpAnyH_ready (rs := [11]) (by kernel_rfl) (by simp) ?_
    refine AllReadyH.cons rfl (fun K' hK => ?_) AllReadyH.nil
    go_simp
    refine hK.out _ _ (by assumption) (fun hHeld => ?_)
    clear hK K'
    try simp only [Act.put, gA, gS, gZ, sA, sZ, sS]
    refine tk 14 undef rfl (.inr ⟨by rfl, rfl⟩) ?_
    try simp only [Act.put, gA, gS, gZ, sA, sZ, sS]
    refine tk 15 (.bool false) rfl (.inl ⟨by rfl, ?_⟩) ?_
    · intro _ h; (try dsimp only at h); go_simp <;> first | decide | assumption
    try simp only [Act.put, gA, gS, gZ, sA, sZ, sS]
    refine tk 16 (.slice ba 8 bc) rfl (.inl ⟨by rfl, ?_⟩) ?_
    · intro _ h; (try dsimp only at h); go_simp <;> first | decide | assumption
    try simp only [Act.put, gA, gS, gZ, sA, sZ, sS]
    refine tk 17 (.bool false) rfl (.inl ⟨by rfl, ?_⟩) ?_
    · intro _ h; (try dsimp only at h); go_simp <;> first | decide | assumption
    try simp only [Act.put, gA, gS, gZ, sA, sZ, sS]
    refine wpAnyH_done (by kernel_rfl) ?_ _
    go_wp2_with fail
    go_ret2
    exact ⟨⟨_, rfl⟩, Below.andThen hb1 hHeld⟩
  | some n =>
    have nlt := LT n hx
    have sm := SAME n hx
    rw [hx] at hH
    replace hH : ∀ w : World, Calls Tryz.prog 40 #[.string sr] w fun e w' => e = .returned (.tuple #[.int .u64 (n : Int), .bool true]) ∧ w' = w := hH
    have hHx0 := fun w => refHex_any (n : Int) 16 w (by omega) (by omega) (by decide)
    rw [strOfNums_str] at hHx0
    have nb : nanB 17 (bytesL (n : Int) 8) = decide (9218868437227405312 < n % 9223372036854775808) := by
      unfold nanB
      rw [num_bytes, Nat.mod_eq_of_lt (show n < 2 ^ (8 * 8) from nlt)]
      rw [show ((17 : Int) == 8) = false from rfl, show ((17 : Int) == 17) = true from rfl]
      simp only [Bool.false_and, Bool.false_or, Bool.true_and]
      rw [show ((n : Int) % 9223372036854775808) = ((n % 9223372036854775808 : Nat) : Int) from by omega]
      exact decide_eq_decide.2 (by omega)
    clear LT SAME FT hx
    by_cases k1 : 9218868437227405312 < n % 9223372036854775808
    · have nb' : nanB 17 (bytesL (n : Int) 8) = true := by rw [nb]; exact decide_eq_true k1
      rcases sm with ⟨hf, he⟩ | ⟨hf, he⟩
      · rw [hf]
        show Calls _ _ _ _ (RefTo w (Option.map (fun n : Nat => bytesL (n : Int) 8) (if 9218868437227405312 < n % 9223372036854775808 then some n else none)))
        rw [if_pos k1]
        show Calls _ _ _ _ (RefTo w (some (bytesL (n : Int) 8)))
        rw [he, HSR.out] at hHx0
        have hHx : ∀ w : World, Calls Tryz.prog 67 #[.int .u64 (n : Int), .int .i64 16] w fun e w' => e = .returned (.string sr) ∧ Below w.heap.size w w' := hHx0
        obtain ⟨R, HR⟩ : ∃ R, Hid (some (bytesL (n : Int) 8) = R) := ⟨_, rfl⟩
        rw [HR.out]
        clear hf he hHx0 k1 nlt nb
        go_enter Tryz.func35, Tryz.ntmps35
        go_wp2_with fail
        refine (hS _).mono ?_
        rintro e w ⟨rfl, rfl⟩
        go_wp2_with fail
        refine (form64 _).mono ?_
        rintro e w ⟨rfl, rfl⟩
        go_wp2_with fail
        refine (hH _).mono ?_
        rintro e w ⟨rfl, rfl⟩
        go_wp2_with fail
        refine (bytesD_any _ 8 _ (by decide)).mono ?_
        rintro e w1 ⟨⟨ba, bc, rfl, ht⟩, hb1⟩
        have hbz : ∃ bz, bz = bytesL (n : Int) 8 := ⟨_, rfl⟩
        obtain ⟨bz, EB⟩ := hbz
        rw [← EB] at ht
        go_wp2_with fail
        rw [← EB] at nb'
        have hnan := fun (w : World) (h : Row w ba 8 bz) => nan_any 17 ba 8 bc bz w h (by decide)
        rw [nb'] at hnan
        refine wp_region_held_drew (S := fun x => Below w1.heap.size w1 x) (by kernel_rfl) (Below.drew (Below.refl _ _)) (fun hHeld => ?_)
        refine tk 0 (.slice ba 8 bc) rfl (.inl ⟨by rfl, ?_⟩) ?_
        · intro _ h; (try dsimp only at h); go_simp <;> first | decide | assumption
        try simp only [Act.put, gA, gS, gZ, sA, sZ, sS]
        refine tk 1 (.bool true) rfl (.inl ⟨by rfl, ?_⟩) ?_
        · intro _ h; (try dsimp only at h); go_simp <;> first | decide | assumption
        try simp only [Act.put, gA, gS, gZ, sA, sZ, sS]
        refine tk 2 (.bool true) rfl (.inl ⟨by rfl, ?_⟩) ?_
        · intro _ h; (try dsimp only at h); go_simp <;> first | decide | assumption
        try simp only [Act.put, gA, gS, gZ, sA, sZ, sS]
        refine tk 3 (.int .u8 17) rfl (.inl ⟨by rfl, ?_⟩) ?_
        · intro _ h; (try dsimp only at h); go_simp <;> first | decide | assumption
        try simp only [Act.put, gA, gS, gZ, sA, sZ, sS]
        refine tk 4 (.slice ba 8 bc) rfl (.inl ⟨by rfl, ?_⟩) ?_
        · intro _ h; (try dsimp only at h); go_simp <;> first | decide | assumption
        try simp only [Act.put, gA, gS, gZ, sA, sZ, sS]
        refine wpAnyH_ready (rs := [5]) (by kernel_rfl) (by simp) ?_
        refine AllReadyH.cons rfl (fun K' hK => ?_) AllReadyH.nil
        rw [if_pos (by rfl)]
        simp only [List.getElem_toArray, List.getElem_cons_succ, List.getElem_cons_zero]
        go_wp2_with fail
        refine (hnan _ (ht.row.next hHeld)).mono ?_
        rintro e z ⟨rfl, rfl⟩
        try go_wp2_with fail
        refine hK.out _ _ (hHeld) (fun hHeld => ?_)
        clear hK K'
        try simp only [Act.put, gA, gS, gZ, sA, sZ, sS]
        refine tk 6 (.bool true) rfl (.inl ⟨by rfl, ?_⟩) ?_
        · intro _ h; (try dsimp only at h); go_simp <;> first | decide | assumption
        try simp only [Act.put, gA, gS, gZ, sA, sZ, sS]
        refine tk 7 (.bool true) rfl (.inl ⟨by rfl, ?_⟩) ?_
        · intro _ h; (try dsimp only at h); go_simp <;> first | decide | assumption
        try simp only [Act.put, gA, gS, gZ, sA, sZ, sS]
        refine tk 8 (.int .u64 (n : Int)) rfl (.inl ⟨by rfl, ?_⟩) ?_
        · intro _ h; (try dsimp only at h); go_simp <;> first | decide | assumption
        try simp only [Act.put, gA, gS, gZ, sA, sZ, sS]
        refine tk 9 (.int .i64 8) rfl (.inl ⟨by rfl, ?_⟩) ?_
        · intro _ h; (try dsimp only at h); go_simp <;> first | decide | assumption
        try simp only [Act.put, gA, gS, gZ, sA, sZ, sS]
        refine tk 10 (.int .i64 16) rfl (.inl ⟨by rfl, ?_⟩) ?_
        · intro _ h; (try dsimp only at h); go_simp <;> first | decide | assumption
        try simp only [Act.put, gA, gS, gZ, sA, sZ, sS]
        refine tk 12 (.string s) rfl (.inl ⟨by rfl, ?_⟩) ?_
        · intro _ h; (try dsimp only at h); go_simp <;> first | decide | assumption
        try simp only [Act.put, gA, gS, gZ, sA, sZ, sS]
        refine tk 13 (.string sr) rfl (.inl ⟨by rfl, ?_⟩) ?_
        · intro _ h; (try dsimp only at h); go_simp <;> first | decide | assumption
        try simp only [Act.put, gA, gS, gZ, sA, sZ, sS]
        refine wpAnyH_ready (rs := [11]) (by kernel_rfl) (by simp) ?_
        refine AllReadyH.cons rfl (fun K' hK => ?_) AllReadyH.nil
        rw [if_pos (by rfl)]
        simp only [List.getElem_toArray, List.getElem_cons_succ, List.getElem_cons_zero]
        go_wp2_with fail
        refine (hHx _).mono ?_
        rintro e z ⟨rfl, hbx⟩
        try go_wp2_with fail
        refine hK.out _ _ (Below.andThen hHeld hbx) (fun hHeld => ?_)
        clear hK K'
        try simp only [Act.put, gA, gS, gZ, sA, sZ, sS]
        refine tk 14 (.bool true) rfl (.inl ⟨by rfl, ?_⟩) ?_
        · intro _ h; (try dsimp only at h); go_simp <;> first | decide | assumption
        try simp only [Act.put, gA, gS, gZ, sA, sZ, sS]
        refine tk 15 (.bool true) rfl (.inl ⟨by rfl, ?_⟩) ?_
        · intro _ h; (try dsimp only at h); go_simp <;> first | decide | assumption
        try simp only [Act.put, gA, gS, gZ, sA, sZ, sS]
        refine tk 16 (.slice ba 8 bc) rfl (.inl ⟨by rfl, ?_⟩) ?_
        · intro _ h; (try dsimp only at h); go_simp <;> first | decide | assumption
        try simp only [Act.put, gA, gS, gZ, sA, sZ, sS]
        refine tk 17 (.bool true) rfl (.inl ⟨by rfl, ?_⟩) ?_
        · intro _ h; (try dsimp only at h); go_simp <;> first | decide | assumption
        try simp only [Act.put, gA, gS, gZ, sA, sZ, sS]
        refine wpAnyH_done (by kernel_rfl) ?_ _
        go_wp2_with fail
        go_ret2
        rw [EB] at ht
        rw [← HR.out]
        refine ⟨⟨_, _, _, rfl, ⟨ht.row.next hHeld, ht.le, ht.max, fun hp => ?_⟩⟩, Below.andThen hb1 hHeld⟩
        obtain ⟨g, e1, e2, e3⟩ := ht.own hp
        refine ⟨g, e1, e2, fun i hi => ?_⟩
        exact (hHeld.frozen (p := ⟨g, i, none⟩) (ht.row.old hp g 0 e1)).trans (e3 i hi)
      · rw [hf]
        show Calls _ _ _ _ (RefTo w none)
        obtain ⟨sq, HSQ⟩ : ∃ x, Hid (str (byteL (hexR (n : Int) 16)) = x) := ⟨_, rfl⟩
        have tq : (sq.toList == sr.toList) = false := by
          rw [tl, ← HSQ.out, Lib.toList_data]
          simpa [str] using he
        have tq2 : ¬ sq.toList = l.drop 4 := by
          rw [← HSQ.out, Lib.toList_data]
          simpa [str] using he
        rw [HSQ.out] at hHx0
        have hHx : ∀ w : World, Calls Tryz.prog 67 #[.int .u64 (n : Int), .int .i64 16] w fun e w' => e = .returned (.string sq) ∧ Below w.heap.size w w' := hHx0
        clear hf he hHx0 k1 nlt nb
        go_enter Tryz.func35, Tryz.ntmps35
        go_wp2_with fail
        refine (hS _).mono ?_
        rintro e w ⟨rfl, rfl⟩
        go_wp2_with fail
        refine (form64 _).mono ?_
        rintro e w ⟨rfl, rfl⟩
        go_wp2_with fail
        refine (hH _).mono ?_
        rintro e w ⟨rfl, rfl⟩
        go_wp2_with fail
        refine (bytesD_any _ 8 _ (by decide)).mono ?_
        rintro e w1 ⟨⟨ba, bc, rfl, ht⟩, hb1⟩
        have hbz : ∃ bz, bz = bytesL (n : Int) 8 := ⟨_, rfl⟩
        obtain ⟨bz, EB⟩ := hbz
        rw [← EB] at ht
        go_wp2_with fail
        rw [← EB] at nb'
        have hnan := fun (w : World) (h : Row w ba 8 bz) => nan_any 17 ba 8 bc bz w h (by decide)
        rw [nb'] at hnan
        refine wp_region_held_drew (S := fun x => Below w1.heap.size w1 x) (by kernel_rfl) (Below.drew (Below.refl _ _)) (fun hHeld => ?_)
        refine tk 0 (.slice ba 8 bc) rfl (.inl ⟨by rfl, ?_⟩) ?_
        · intro _ h; (try dsimp only at h); go_simp <;> first | decide | assumption
        try simp only [Act.put, gA, gS, gZ, sA, sZ, sS]
        refine tk 1 (.bool true) rfl (.inl ⟨by rfl, ?_⟩) ?_
        · intro _ h; (try dsimp only at h); go_simp <;> first | decide | assumption
        try simp only [Act.put, gA, gS, gZ, sA, sZ, sS]
        refine tk 2 (.bool true) rfl (.inl ⟨by rfl, ?_⟩) ?_
        · intro _ h; (try dsimp only at h); go_simp <;> first | decide | assumption
        try simp only [Act.put, gA, gS, gZ, sA, sZ, sS]
        refine tk 3 (.int .u8 17) rfl (.inl ⟨by rfl, ?_⟩) ?_
        · intro _ h; (try dsimp only at h); go_simp <;> first | decide | assumption
        try simp only [Act.put, gA, gS, gZ, sA, sZ, sS]
        refine tk 4 (.slice ba 8 bc) rfl (.inl ⟨by rfl, ?_⟩) ?_
        · intro _ h; (try dsimp only at h); go_simp <;> first | decide | assumption
        try simp only [Act.put, gA, gS, gZ, sA, sZ, sS]
        refine wpAnyH_ready (rs := [5]) (by kernel_rfl) (by simp) ?_
        refine AllReadyH.cons rfl (fun K' hK => ?_) AllReadyH.nil
        rw [if_pos (by rfl)]
        simp only [List.getElem_toArray, List.getElem_cons_succ, List.getElem_cons_zero]
        go_wp2_with fail
        refine (hnan _ (ht.row.next hHeld)).mono ?_
        rintro e z ⟨rfl, rfl⟩
        try go_wp2_with fail
        refine hK.out _ _ (hHeld) (fun hHeld => ?_)
        clear hK K'
        try simp only [Act.put, gA, gS, gZ, sA, sZ, sS]
        refine tk 6 (.bool true) rfl (.inl ⟨by rfl, ?_⟩) ?_
        · intro _ h; (try dsimp only at h); go_simp <;> first | decide | assumption
        try simp only [Act.put, gA, gS, gZ, sA, sZ, sS]
        refine tk 7 (.bool true) rfl (.inl ⟨by rfl, ?_⟩) ?_
        · intro _ h; (try dsimp only at h); go_simp <;> first | decide | assumption
        try simp only [Act.put, gA, gS, gZ, sA, sZ, sS]
        refine tk 8 (.int .u64 (n : Int)) rfl (.inl ⟨by rfl, ?_⟩) ?_
        · intro _ h; (try dsimp only at h); go_simp <;> first | decide | assumption
        try simp only [Act.put, gA, gS, gZ, sA, sZ, sS]
        refine tk 9 (.int .i64 8) rfl (.inl ⟨by rfl, ?_⟩) ?_
        · intro _ h; (try dsimp only at h); go_simp <;> first | decide | assumption
        try simp only [Act.put, gA, gS, gZ, sA, sZ, sS]
        refine tk 10 (.int .i64 16) rfl (.inl ⟨by rfl, ?_⟩) ?_
        · intro _ h; (try dsimp only at h); go_simp <;> first | decide | assumption
        try simp only [Act.put, gA, gS, gZ, sA, sZ, sS]
        refine tk 12 (.string s) rfl (.inl ⟨by rfl, ?_⟩) ?_
        · intro _ h; (try dsimp only at h); go_simp <;> first | decide | assumption
        try simp only [Act.put, gA, gS, gZ, sA, sZ, sS]
        refine tk 13 (.string sr) rfl (.inl ⟨by rfl, ?_⟩) ?_
        · intro _ h; (try dsimp only at h); go_simp <;> first | decide | assumption
        try simp only [Act.put, gA, gS, gZ, sA, sZ, sS]
        refine wpAnyH_ready (rs := [11]) (by kernel_rfl) (by simp) ?_
        refine AllReadyH.cons rfl (fun K' hK => ?_) AllReadyH.nil
        rw [if_pos (by rfl)]
        simp only [List.getElem_toArray, List.getElem_cons_succ, List.getElem_cons_zero]
        go_wp2_with fail
        refine (hHx _).mono ?_
        rintro e z ⟨rfl, hbx⟩
        try go_wp2_with fail
        refine hK.out _ _ (Below.andThen hHeld hbx) (fun hHeld => ?_)
        clear hK K'
        try simp only [Act.put, gA, gS, gZ, sA, sZ, sS]
        refine tk 14 (.bool false) rfl (.inl ⟨by rfl, ?_⟩) ?_
        · intro _ h; (try dsimp only at h); go_simp <;> first | decide | assumption
        try simp only [Act.put, gA, gS, gZ, sA, sZ, sS]
        refine tk 15 (.bool false) rfl (.inl ⟨by rfl, ?_⟩) ?_
        · intro _ h; (try dsimp only at h); go_simp <;> first | decide | assumption
        try simp only [Act.put, gA, gS, gZ, sA, sZ, sS]
        refine tk 16 (.slice ba 8 bc) rfl (.inl ⟨by rfl, ?_⟩) ?_
        · intro _ h; (try dsimp only at h); go_simp <;> first | decide | assumption
        try simp only [Act.put, gA, gS, gZ, sA, sZ, sS]
        refine tk 17 (.bool false) rfl (.inl ⟨by rfl, ?_⟩) ?_
        · intro _ h; (try dsimp only at h); go_simp <;> first | decide | assumption
        try simp only [Act.put, gA, gS, gZ, sA, sZ, sS]
        refine wpAnyH_done (by kernel_rfl) ?_ _
        go_wp2_with fail
        go_ret2
        exact ⟨⟨_, rfl⟩, Below.andThen hb1 hHeld⟩
    · have nb' : nanB 17 (bytesL (n : Int) 8) = false := by rw [nb]; exact decide_eq_false k1
      have hres : (Option.map (fun n : Nat => bytesL (n : Int) 8) ((hexF false 0 (l.drop 4)).bind fun n => if 9218868437227405312 < n % 9223372036854775808 then some n else none)) = none := by
        rcases sm with ⟨hf, _⟩ | ⟨hf, _⟩
        · rw [hf]; show Option.map _ (if 9218868437227405312 < n % 9223372036854775808 then some n else none) = none; rw [if_neg k1]; rfl
        · rw [hf]; rfl
      rw [hres]
      clear sm hHx0 k1 nlt nb hres
      go_enter Tryz.func35, Tryz.ntmps35
      go_wp2_with fail
      refine (hS _).mono ?_
      rintro e w ⟨rfl, rfl⟩
      go_wp2_with fail
      refine (form64 _).mono ?_
      rintro e w ⟨rfl, rfl⟩
      go_wp2_with fail
      refine (hH _).mono ?_
      rintro e w ⟨rfl, rfl⟩
      go_wp2_with fail
      refine (bytesD_any _ 8 _ (by decide)).mono ?_
      rintro e w1 ⟨⟨ba, bc, rfl, ht⟩, hb1⟩
      have hbz : ∃ bz, bz = bytesL (n : Int) 8 := ⟨_, rfl⟩
      obtain ⟨bz, EB⟩ := hbz
      rw [← EB] at ht
      go_wp2_with fail
      rw [← EB] at nb'
      have hnan := fun (w : World) (h : Row w ba 8 bz) => nan_any 17 ba 8 bc bz w h (by decide)
      rw [nb'] at hnan
      refine wp_region_held_drew (S := fun x => Below w1.heap.size w1 x) (by kernel_rfl) (Below.drew (Below.refl _ _)) (fun hHeld => ?_)
      refine tk 0 (.slice ba 8 bc) rfl (.inl ⟨by rfl, ?_⟩) ?_
      · intro _ h; (try dsimp only at h); go_simp <;> first | decide | assumption
      try simp only [Act.put, gA, gS, gZ, sA, sZ, sS]
      refine tk 1 (.bool true) rfl (.inl ⟨by rfl, ?_⟩) ?_
      · intro _ h; (try dsimp only at h); go_simp <;> first | decide | assumption
      try simp only [Act.put, gA, gS, gZ, sA, sZ, sS]
      refine tk 2 (.bool true) rfl (.inl ⟨by rfl, ?_⟩) ?_
      · intro _ h; (try dsimp only at h); go_simp <;> first | decide | assumption
      try simp only [Act.put, gA, gS, gZ, sA, sZ, sS]
      refine tk 3 (.int .u8 17) rfl (.inl ⟨by rfl, ?_⟩) ?_
      · intro _ h; (try dsimp only at h); go_simp <;> first | decide | assumption
      try simp only [Act.put, gA, gS, gZ, sA, sZ, sS]
      refine tk 4 (.slice ba 8 bc) rfl (.inl ⟨by rfl, ?_⟩) ?_
      · intro _ h; (try dsimp only at h); go_simp <;> first | decide | assumption
      try simp only [Act.put, gA, gS, gZ, sA, sZ, sS]
      refine wpAnyH_ready (rs := [5]) (by kernel_rfl) (by simp) ?_
      refine AllReadyH.cons rfl (fun K' hK => ?_) AllReadyH.nil
      rw [if_pos (by rfl)]
      simp only [List.getElem_toArray, List.getElem_cons_succ, List.getElem_cons_zero]
      go_wp2_with fail
      refine (hnan _ (ht.row.next hHeld)).mono ?_
      rintro e z ⟨rfl, rfl⟩
      try go_wp2_with fail
      refine hK.out _ _ (hHeld) (fun hHeld => ?_)
      clear hK K'
      try simp only [Act.put, gA, gS, gZ, sA, sZ, sS]
      refine tk 6 (.bool false) rfl (.inl ⟨by rfl, ?_⟩) ?_
      · intro _ h; (try dsimp only at h); go_simp <;> first | decide | assumption
      try simp only [Act.put, gA, gS, gZ, sA, sZ, sS]
      refine tk 7 (.bool false) rfl (.inl ⟨by rfl, ?_⟩) ?_
      · intro _ h; (try dsimp only at h); go_simp <;> first | decide | assumption
      try simp only [Act.put, gA, gS, gZ, sA, sZ, sS]
      refine tk 8 undef rfl (.inr ⟨by rfl, rfl⟩) ?_
      try simp only [Act.put, gA, gS, gZ, sA, sZ, sS]
      refine tk 9 undef rfl (.inr ⟨by rfl, rfl⟩) ?_
      try simp only [Act.put, gA, gS, gZ, sA, sZ, sS]
      refine tk 10 undef rfl (.inr ⟨by rfl, rfl⟩) ?_
      try simp only [Act.put, gA, gS, gZ, sA, sZ, sS]
      refine tk 12 undef rfl (.inr ⟨by rfl, rfl⟩) ?_
      try simp only [Act.put, gA, gS, gZ, sA, sZ, sS]
      refine tk 13 undef rfl (.inr ⟨by rfl, rfl⟩) ?_
      try simp only [Act.put, gA, gS, gZ, sA, sZ, sS]
      refine wpAnyH_ready (rs := [11]) (by kernel_rfl) (by simp) ?_
      refine AllReadyH.cons rfl (fun K' hK => ?_) AllReadyH.nil
      go_simp
      refine hK.out _ _ (by assumption) (fun hHeld => ?_)
      clear hK K'
      try simp only [Act.put, gA, gS, gZ, sA, sZ, sS]
      refine tk 14 undef rfl (.inr ⟨by rfl, rfl⟩) ?_
      try simp only [Act.put, gA, gS, gZ, sA, sZ, sS]
      refine tk 15 (.bool false) rfl (.inl ⟨by rfl, ?_⟩) ?_
      · intro _ h; (try dsimp only at h); go_simp <;> first | decide | assumption
      try simp only [Act.put, gA, gS, gZ, sA, sZ, sS]
      refine tk 16 (.slice ba 8 bc) rfl (.inl ⟨by rfl, ?_⟩) ?_
      · intro _ h; (try dsimp only at h); go_simp <;> first | decide | assumption
      try simp only [Act.put, gA, gS, gZ, sA, sZ, sS]
      refine tk 17 (.bool false) rfl (.inl ⟨by rfl, ?_⟩) ?_
      · intro _ h; (try dsimp only at h); go_simp <;> first | decide | assumption
      try simp only [Act.put, gA, gS, gZ, sA, sZ, sS]
      refine wpAnyH_done (by kernel_rfl) ?_ _
      go_wp2_with fail
      go_ret2
      exact ⟨⟨_, rfl⟩, Below.andThen hb1 hHeld⟩
#print axioms realN64

set_option linter.unusedSimpArgs false in
set_option maxHeartbeats 4000000 in
set_option maxRecDepth 100000 in
theorem realN32 (l : List UInt8) (w : World) (hl : l.length = 12) (hp : l.take 4 = [110, 97, 110, 58]) :
    Calls Tryz.prog 35 #[.int .u8 8, .string (str l)] w (RefTo w ((nan32V (l.drop 4)).map fun n : Nat => bytesL (n : Int) 4)) := by
  have hS : ∀ w : World, Calls Tryz.prog 63 #[.int .u8 8] w fun e w' => e = .returned (.tuple #[.int .i64 4, .bool true]) ∧ w' = w := fun w => refSize_any 8 w
  have hH := fun w => hexD_any (l.drop 4) w
  have hr : (l.drop 4).length = 8 := by rw [List.length_drop, hl]
  have sf := slice_from l 4 (by omega)
  have st : ∀ w : World, (Instr.slice 9 (.string (str l)) none (some (.int .i64 4)) none).run Tryz.prog w = .ok (.string ⟨#[110, 97, 110, 58]⟩) w := fun w => by
    have hs : (str l).size = l.length := by unfold str; simp [ByteArray.size]
    rw [run_slice_string_h (P := Tryz.prog) w 9 (str l) Tryz.underlying9 .i64 _ (by omega) (by rw [hs]; omega)]
    congr 2
    apply ByteArray.ext
    rw [show (⟨#[110, 97, 110, 58]⟩ : ByteArray) = str (l.take 4) from by rw [hp]; rfl]
    simp [str, ByteArray.data_extract]
  obtain ⟨s, HSL, htl, hsz, _⟩ := str_facts l
  rw [HSL.out] at sf st ⊢
  have sf' : ∀ w : World, (Instr.slice 9 (.string s) (some (.int .i64 4)) none none).run Tryz.prog w = .ok (.string (str (l.drop 4))) w := sf
  have b1 : ((l.length : Int) == 12) = true := by simp; omega
  have HV : hexV (l.drop 4) = hexF true 0 (l.drop 4) := by unfold hexV; rw [if_neg (by rintro (h | h); rw [h] at hr; simp at hr; omega)]
  rw [HV] at hH
  unfold nan32V
  rw [if_pos hr]
  have LT : ∀ n, hexF true 0 (l.drop 4) = some n → n < 4294967296 := fun n hn => by have := hexF_lt true _ 0 n hn; rw [hr] at this; exact this
  have SAME : ∀ n, hexF true 0 (l.drop 4) = some n → _ := fun n h => hex_same (l.drop 4) n h
  have FT : ∀ n, hexF false 0 (l.drop 4) = some n → hexF true 0 (l.drop 4) = some n := fun n h => hexF_ft _ 0 n h
  rw [hr] at SAME
  clear hp sf HV hl
  obtain ⟨sr, HSR⟩ : ∃ x, Hid (str (l.drop 4) = x) := ⟨_, rfl⟩
  have tl : sr.toList = l.drop 4 := by rw [← HSR.out, Lib.toList_data]; rfl
  rw [HSR.out] at hH sf'
  cases hx : hexF true 0 (l.drop 4) with
  | none =>
    have hf : hexF false 0 (l.drop 4) = none := by cases h : hexF false 0 (l.drop 4) with | none => rfl | some n => rw [FT n h] at hx; cases hx
    rw [hf]
    rw [hx] at hH
    replace hH : ∀ w : World, Calls Tryz.prog 40 #[.string sr] w fun e w' => e = .returned (.tuple #[.int .u64 0, .bool false]) ∧ w' = w := hH
    show Calls _ _ _ _ (RefTo w none)
    clear LT SAME FT hx hf
    go_enter Tryz.func35, Tryz.ntmps35
    go_wp2_with fail
    refine (hS _).mono ?_
    rintro e w ⟨rfl, rfl⟩
    go_wp2_with fail
    refine (form32 _).mono ?_
    rintro e w ⟨rfl, rfl⟩
    go_wp2_with fail
    refine (hH _).mono ?_
    rintro e w ⟨rfl, rfl⟩
    go_wp2_with fail
    refine (bytesD_any _ 4 _ (by decide)).mono ?_
    rintro e w1 ⟨⟨ba, bc, rfl, ht⟩, hb1⟩
    have hbz : ∃ bz, bz = bytesL 0 4 := ⟨_, rfl⟩
    obtain ⟨bz, EB⟩ := hbz
    rw [← EB] at ht
    go_wp2_with fail
    refine wp_region_held_drew (S := fun x => Below w1.heap.size w1 x) (by kernel_rfl) (Below.drew (Below.refl _ _)) (fun hHeld => ?_)
    refine tk 0 (.slice ba 4 bc) rfl (.inl ⟨by rfl, ?_⟩) ?_
    · intro _ h; (try dsimp only at h); go_simp <;> first | decide | assumption
    try simp only [Act.put, gA, gS, gZ, sA, sZ, sS]
    refine tk 1 (.bool false) rfl (.inl ⟨by rfl, ?_⟩) ?_
    · intro _ h; (try dsimp only at h); go_simp <;> first | decide | assumption
    try simp only [Act.put, gA, gS, gZ, sA, sZ, sS]
    refine tk 2 (.bool false) rfl (.inl ⟨by rfl, ?_⟩) ?_
    · intro _ h; (try dsimp only at h); go_simp <;> first | decide | assumption
    try simp only [Act.put, gA, gS, gZ, sA, sZ, sS]
    refine tk 3 undef rfl (.inr ⟨by rfl, rfl⟩) ?_
    try simp only [Act.put, gA, gS, gZ, sA, sZ, sS]
    refine tk 4 undef rfl (.inr ⟨by rfl, rfl⟩) ?_
    try simp only [Act.put, gA, gS, gZ, sA, sZ, sS]
    refine wpAnyH_ready (rs := [5]) (by kernel_rfl) (by simp) ?_
    refine AllReadyH.cons rfl (fun K' hK => ?_) AllReadyH.nil
    go_simp
    refine hK.out _ _ (by assumption) (fun hHeld => ?_)
    clear hK K'
    try simp only [Act.put, gA, gS, gZ, sA, sZ, sS]
    refine tk 6 (.bool false) rfl (.inl ⟨by rfl, ?_⟩) ?_
    · intro _ h; (try dsimp only at h); go_simp <;> first | decide | assumption
    try simp only [Act.put, gA, gS, gZ, sA, sZ, sS]
    refine tk 7 (.bool false) rfl (.inl ⟨by rfl, ?_⟩) ?_
    · intro _ h; (try dsimp only at h); go_simp <;> first | decide | assumption
    try simp only [Act.put, gA, gS, gZ, sA, sZ, sS]
    refine tk 8 undef rfl (.inr ⟨by rfl, rfl⟩) ?_
    try simp only [Act.put, gA, gS, gZ, sA, sZ, sS]
    refine tk 9 undef rfl (.inr ⟨by rfl, rfl⟩) ?_
    try simp only [Act.put, gA, gS, gZ, sA, sZ, sS]
    refine tk 10 undef rfl (.inr ⟨by rfl, rfl⟩) ?_
    try simp only [Act.put, gA, gS, gZ, sA, sZ, sS]
    refine tk 12 undef rfl (.inr ⟨by rfl, rfl⟩) ?_
    try simp only [Act.put, gA, gS, gZ, sA, sZ, sS]
    refine tk 13 undef rfl (.inr ⟨by rfl, rfl⟩) ?_
    try simp only [Act.put, gA, gS, gZ, sA, sZ, sS]
    refine wpAnyH_ready (rs := [11]) (by kernel_rfl) (by simp) ?_
    refine AllReadyH.cons rfl (fun K' hK => ?_) AllReadyH.nil
    go_simp
    refine hK.out _ _ (by assumption) (fun hHeld => ?_)
    clear hK K'
    try simp only [Act.put, gA, gS, gZ, sA, sZ, sS]
    refine tk 14 undef rfl (.inr ⟨by rfl, rfl⟩) ?_
    try simp only [Act.put, gA, gS, gZ, sA, sZ, sS]
    refine tk 15 (.bool false) rfl (.inl ⟨by rfl, ?_⟩) ?_
    · intro _ h; (try dsimp only at h); go_simp <;> first | decide | assumption
    try simp only [Act.put, gA, gS, gZ, sA, sZ, sS]
    refine tk 16 (.slice ba 4 bc) rfl (.inl ⟨by rfl, ?_⟩) ?_
    · intro _ h; (try dsimp only at h); go_simp <;> first | decide | assumption
    try simp only [Act.put, gA, gS, gZ, sA, sZ, sS]
    refine tk 17 (.bool false) rfl (.inl ⟨by rfl, ?_⟩) ?_
    · intro _ h; (try dsimp only at h); go_simp <;> first | decide | assumption
    try simp only [Act.put, gA, gS, gZ, sA, sZ, sS]
    refine wpAnyH_done (by kernel_rfl) ?_ _
    go_wp2_with fail
    go_ret2
    exact ⟨⟨_, rfl⟩, Below.andThen hb1 hHeld⟩
  | some n =>
    have nlt := LT n hx
    have sm := SAME n hx
    rw [hx] at hH
    replace hH : ∀ w : World, Calls Tryz.prog 40 #[.string sr] w fun e w' => e = .returned (.tuple #[.int .u64 (n : Int), .bool true]) ∧ w' = w := hH
    have hHx0 := fun w => refHex_any (n : Int) 8 w (by omega) (by omega) (by decide)
    rw [strOfNums_str] at hHx0
    have nb : nanB 8 (bytesL (n : Int) 4) = decide (2139095040 < n % 2147483648) := by
      unfold nanB
      rw [num_bytes, Nat.mod_eq_of_lt (show n < 2 ^ (8 * 4) from nlt)]
      rw [show ((8 : Int) == 8) = true from rfl, show ((8 : Int) == 17) = false from rfl]
      simp only [Bool.false_and, Bool.or_false, Bool.true_and]
      rw [show ((n : Int) % 2147483648) = ((n % 2147483648 : Nat) : Int) from by omega]
      exact decide_eq_decide.2 (by omega)
    clear LT SAME FT hx
    by_cases k1 : 2139095040 < n % 2147483648
    · have nb' : nanB 8 (bytesL (n : Int) 4) = true := by rw [nb]; exact decide_eq_true k1
      rcases sm with ⟨hf, he⟩ | ⟨hf, he⟩
      · rw [hf]
        show Calls _ _ _ _ (RefTo w (Option.map (fun n : Nat => bytesL (n : Int) 4) (if 2139095040 < n % 2147483648 then some n else none)))
        rw [if_pos k1]
        show Calls _ _ _ _ (RefTo w (some (bytesL (n : Int) 4)))
        rw [he, HSR.out] at hHx0
        have hHx : ∀ w : World, Calls Tryz.prog 67 #[.int .u64 (n : Int), .int .i64 8] w fun e w' => e = .returned (.string sr) ∧ Below w.heap.size w w' := hHx0
        obtain ⟨R, HR⟩ : ∃ R, Hid (some (bytesL (n : Int) 4) = R) := ⟨_, rfl⟩
        rw [HR.out]
        clear hf he hHx0 k1 nlt nb
        go_enter Tryz.func35, Tryz.ntmps35
        go_wp2_with fail
        refine (hS _).mono ?_
        rintro e w ⟨rfl, rfl⟩
        go_wp2_with fail
        refine (form32 _).mono ?_
        rintro e w ⟨rfl, rfl⟩
        go_wp2_with fail
        refine (hH _).mono ?_
        rintro e w ⟨rfl, rfl⟩
        go_wp2_with fail
        refine (bytesD_any _ 4 _ (by decide)).mono ?_
        rintro e w1 ⟨⟨ba, bc, rfl, ht⟩, hb1⟩
        have hbz : ∃ bz, bz = bytesL (n : Int) 4 := ⟨_, rfl⟩
        obtain ⟨bz, EB⟩ := hbz
        rw [← EB] at ht
        go_wp2_with fail
        rw [← EB] at nb'
        have hnan := fun (w : World) (h : Row w ba 4 bz) => nan_any 8 ba 4 bc bz w h (by decide)
        rw [nb'] at hnan
        refine wp_region_held_drew (S := fun x => Below w1.heap.size w1 x) (by kernel_rfl) (Below.drew (Below.refl _ _)) (fun hHeld => ?_)
        refine tk 0 (.slice ba 4 bc) rfl (.inl ⟨by rfl, ?_⟩) ?_
        · intro _ h; (try dsimp only at h); go_simp <;> first | decide | assumption
        try simp only [Act.put, gA, gS, gZ, sA, sZ, sS]
        refine tk 1 (.bool true) rfl (.inl ⟨by rfl, ?_⟩) ?_
        · intro _ h; (try dsimp only at h); go_simp <;> first | decide | assumption
        try simp only [Act.put, gA, gS, gZ, sA, sZ, sS]
        refine tk 2 (.bool true) rfl (.inl ⟨by rfl, ?_⟩) ?_
        · intro _ h; (try dsimp only at h); go_simp <;> first | decide | assumption
        try simp only [Act.put, gA, gS, gZ, sA, sZ, sS]
        refine tk 3 (.int .u8 8) rfl (.inl ⟨by rfl, ?_⟩) ?_
        · intro _ h; (try dsimp only at h); go_simp <;> first | decide | assumption
        try simp only [Act.put, gA, gS, gZ, sA, sZ, sS]
        refine tk 4 (.slice ba 4 bc) rfl (.inl ⟨by rfl, ?_⟩) ?_
        · intro _ h; (try dsimp only at h); go_simp <;> first | decide | assumption
        try simp only [Act.put, gA, gS, gZ, sA, sZ, sS]
        refine wpAnyH_ready (rs := [5]) (by kernel_rfl) (by simp) ?_
        refine AllReadyH.cons rfl (fun K' hK => ?_) AllReadyH.nil
        rw [if_pos (by rfl)]
        simp only [List.getElem_toArray, List.getElem_cons_succ, List.getElem_cons_zero]
        go_wp2_with fail
        refine (hnan _ (ht.row.next hHeld)).mono ?_
        rintro e z ⟨rfl, rfl⟩
        try go_wp2_with fail
        refine hK.out _ _ (hHeld) (fun hHeld => ?_)
        clear hK K'
        try simp only [Act.put, gA, gS, gZ, sA, sZ, sS]
        refine tk 6 (.bool true) rfl (.inl ⟨by rfl, ?_⟩) ?_
        · intro _ h; (try dsimp only at h); go_simp <;> first | decide | assumption
        try simp only [Act.put, gA, gS, gZ, sA, sZ, sS]
        refine tk 7 (.bool true) rfl (.inl ⟨by rfl, ?_⟩) ?_
        · intro _ h; (try dsimp only at h); go_simp <;> first | decide | assumption
        try simp only [Act.put, gA, gS, gZ, sA, sZ, sS]
        refine tk 8 (.int .u64 (n : Int)) rfl (.inl ⟨by rfl, ?_⟩) ?_
        · intro _ h; (try dsimp only at h); go_simp <;> first | decide | assumption
        try simp only [Act.put, gA, gS, gZ, sA, sZ, sS]
        refine tk 9 (.int .i64 4) rfl (.inl ⟨by rfl, ?_⟩) ?_
        · intro _ h; (try dsimp only at h); go_simp <;> first | decide | assumption
        try simp only [Act.put, gA, gS, gZ, sA, sZ, sS]
        refine tk 10 (.int .i64 8) rfl (.inl ⟨by rfl, ?_⟩) ?_
        · intro _ h; (try dsimp only at h); go_simp <;> first | decide | assumption
        try simp only [Act.put, gA, gS, gZ, sA, sZ, sS]
        refine tk 12 (.string s) rfl (.inl ⟨by rfl, ?_⟩) ?_
        · intro _ h; (try dsimp only at h); go_simp <;> first | decide | assumption
        try simp only [Act.put, gA, gS, gZ, sA, sZ, sS]
        refine tk 13 (.string sr) rfl (.inl ⟨by rfl, ?_⟩) ?_
        · intro _ h; (try dsimp only at h); go_simp <;> first | decide | assumption
        try simp only [Act.put, gA, gS, gZ, sA, sZ, sS]
        refine wpAnyH_ready (rs := [11]) (by kernel_rfl) (by simp) ?_
        refine AllReadyH.cons rfl (fun K' hK => ?_) AllReadyH.nil
        rw [if_pos (by rfl)]
        simp only [List.getElem_toArray, List.getElem_cons_succ, List.getElem_cons_zero]
        go_wp2_with fail
        refine (hHx _).mono ?_
        rintro e z ⟨rfl, hbx⟩
        try go_wp2_with fail
        refine hK.out _ _ (Below.andThen hHeld hbx) (fun hHeld => ?_)
        clear hK K'
        try simp only [Act.put, gA, gS, gZ, sA, sZ, sS]
        refine tk 14 (.bool true) rfl (.inl ⟨by rfl, ?_⟩) ?_
        · intro _ h; (try dsimp only at h); go_simp <;> first | decide | assumption
        try simp only [Act.put, gA, gS, gZ, sA, sZ, sS]
        refine tk 15 (.bool true) rfl (.inl ⟨by rfl, ?_⟩) ?_
        · intro _ h; (try dsimp only at h); go_simp <;> first | decide | assumption
        try simp only [Act.put, gA, gS, gZ, sA, sZ, sS]
        refine tk 16 (.slice ba 4 bc) rfl (.inl ⟨by rfl, ?_⟩) ?_
        · intro _ h; (try dsimp only at h); go_simp <;> first | decide | assumption
        try simp only [Act.put, gA, gS, gZ, sA, sZ, sS]
        refine tk 17 (.bool true) rfl (.inl ⟨by rfl, ?_⟩) ?_
        · intro _ h; (try dsimp only at h); go_simp <;> first | decide | assumption
        try simp only [Act.put, gA, gS, gZ, sA, sZ, sS]
        refine wpAnyH_done (by kernel_rfl) ?_ _
        go_wp2_with fail
        go_ret2
        rw [EB] at ht
        rw [← HR.out]
        refine ⟨⟨_, _, _, rfl, ⟨ht.row.next hHeld, ht.le, ht.max, fun hp => ?_⟩⟩, Below.andThen hb1 hHeld⟩
        obtain ⟨g, e1, e2, e3⟩ := ht.own hp
        refine ⟨g, e1, e2, fun i hi => ?_⟩
        exact (hHeld.frozen (p := ⟨g, i, none⟩) (ht.row.old hp g 0 e1)).trans (e3 i hi)
      · rw [hf]
        show Calls _ _ _ _ (RefTo w none)
        obtain ⟨sq, HSQ⟩ : ∃ x, Hid (str (byteL (hexR (n : Int) 8)) = x) := ⟨_, rfl⟩
        have tq : (sq.toList == sr.toList) = false := by
          rw [tl, ← HSQ.out, Lib.toList_data]
          simpa [str] using he
        have tq2 : ¬ sq.toList = l.drop 4 := by
          rw [← HSQ.out, Lib.toList_data]
          simpa [str] using he
        rw [HSQ.out] at hHx0
        have hHx : ∀ w : World, Calls Tryz.prog 67 #[.int .u64 (n : Int), .int .i64 8] w fun e w' => e = .returned (.string sq) ∧ Below w.heap.size w w' := hHx0
        clear hf he hHx0 k1 nlt nb
        go_enter Tryz.func35, Tryz.ntmps35
        go_wp2_with fail
        refine (hS _).mono ?_
        rintro e w ⟨rfl, rfl⟩
        go_wp2_with fail
        refine (form32 _).mono ?_
        rintro e w ⟨rfl, rfl⟩
        go_wp2_with fail
        refine (hH _).mono ?_
        rintro e w ⟨rfl, rfl⟩
        go_wp2_with fail
        refine (bytesD_any _ 4 _ (by decide)).mono ?_
        rintro e w1 ⟨⟨ba, bc, rfl, ht⟩, hb1⟩
        have hbz : ∃ bz, bz = bytesL (n : Int) 4 := ⟨_, rfl⟩
        obtain ⟨bz, EB⟩ := hbz
        rw [← EB] at ht
        go_wp2_with fail
        rw [← EB] at nb'
        have hnan := fun (w : World) (h : Row w ba 4 bz) => nan_any 8 ba 4 bc bz w h (by decide)
        rw [nb'] at hnan
        refine wp_region_held_drew (S := fun x => Below w1.heap.size w1 x) (by kernel_rfl) (Below.drew (Below.refl _ _)) (fun hHeld => ?_)
        refine tk 0 (.slice ba 4 bc) rfl (.inl ⟨by rfl, ?_⟩) ?_
        · intro _ h; (try dsimp only at h); go_simp <;> first | decide | assumption
        try simp only [Act.put, gA, gS, gZ, sA, sZ, sS]
        refine tk 1 (.bool true) rfl (.inl ⟨by rfl, ?_⟩) ?_
        · intro _ h; (try dsimp only at h); go_simp <;> first | decide | assumption
        try simp only [Act.put, gA, gS, gZ, sA, sZ, sS]
        refine tk 2 (.bool true) rfl (.inl ⟨by rfl, ?_⟩) ?_
        · intro _ h; (try dsimp only at h); go_simp <;> first | decide | assumption
        try simp only [Act.put, gA, gS, gZ, sA, sZ, sS]
        refine tk 3 (.int .u8 8) rfl (.inl ⟨by rfl, ?_⟩) ?_
        · intro _ h; (try dsimp only at h); go_simp <;> first | decide | assumption
        try simp only [Act.put, gA, gS, gZ, sA, sZ, sS]
        refine tk 4 (.slice ba 4 bc) rfl (.inl ⟨by rfl, ?_⟩) ?_
        · intro _ h; (try dsimp only at h); go_simp <;> first | decide | assumption
        try simp only [Act.put, gA, gS, gZ, sA, sZ, sS]
        refine wpAnyH_ready (rs := [5]) (by kernel_rfl) (by simp) ?_
        refine AllReadyH.cons rfl (fun K' hK => ?_) AllReadyH.nil
        rw [if_pos (by rfl)]
        simp only [List.getElem_toArray, List.getElem_cons_succ, List.getElem_cons_zero]
        go_wp2_with fail
        refine (hnan _ (ht.row.next hHeld)).mono ?_
        rintro e z ⟨rfl, rfl⟩
        try go_wp2_with fail
        refine hK.out _ _ (hHeld) (fun hHeld => ?_)
        clear hK K'
        try simp only [Act.put, gA, gS, gZ, sA, sZ, sS]
        refine tk 6 (.bool true) rfl (.inl ⟨by rfl, ?_⟩) ?_
        · intro _ h; (try dsimp only at h); go_simp <;> first | decide | assumption
        try simp only [Act.put, gA, gS, gZ, sA, sZ, sS]
        refine tk 7 (.bool true) rfl (.inl ⟨by rfl, ?_⟩) ?_
        · intro _ h; (try dsimp only at h); go_simp <;> first | decide | assumption
        try simp only [Act.put, gA, gS, gZ, sA, sZ, sS]
        refine tk 8 (.int .u64 (n : Int)) rfl (.inl ⟨by rfl, ?_⟩) ?_
        · intro _ h; (try dsimp only at h); go_simp <;> first | decide | assumption
        try simp only [Act.put, gA, gS, gZ, sA, sZ, sS]
        refine tk 9 (.int .i64 4) rfl (.inl ⟨by rfl, ?_⟩) ?_
        · intro _ h; (try dsimp only at h); go_simp <;> first | decide | assumption
        try simp only [Act.put, gA, gS, gZ, sA, sZ, sS]
        refine tk 10 (.int .i64 8) rfl (.inl ⟨by rfl, ?_⟩) ?_
        · intro _ h; (try dsimp only at h); go_simp <;> first | decide | assumption
        try simp only [Act.put, gA, gS, gZ, sA, sZ, sS]
        refine tk 12 (.string s) rfl (.inl ⟨by rfl, ?_⟩) ?_
        · intro _ h; (try dsimp only at h); go_simp <;> first | decide | assumption
        try simp only [Act.put, gA, gS, gZ, sA, sZ, sS]
        refine tk 13 (.string sr) rfl (.inl ⟨by rfl, ?_⟩) ?_
        · intro _ h; (try dsimp only at h); go_simp <;> first | decide | assumption
        try simp only [Act.put, gA, gS, gZ, sA, sZ, sS]
        refine wpAnyH_ready (rs := [11]) (by kernel_rfl) (by simp) ?_
        refine AllReadyH.cons rfl (fun K' hK => ?_) AllReadyH.nil
        rw [if_pos (by rfl)]
        simp only [List.getElem_toArray, List.getElem_cons_succ, List.getElem_cons_zero]
        go_wp2_with fail
        refine (hHx _).mono ?_
        rintro e z ⟨rfl, hbx⟩
        try go_wp2_with fail
        refine hK.out _ _ (Below.andThen hHeld hbx) (fun hHeld => ?_)
        clear hK K'
        try simp only [Act.put, gA, gS, gZ, sA, sZ, sS]
        refine tk 14 (.bool false) rfl (.inl ⟨by rfl, ?_⟩) ?_
        · intro _ h; (try dsimp only at h); go_simp <;> first | decide | assumption
        try simp only [Act.put, gA, gS, gZ, sA, sZ, sS]
        refine tk 15 (.bool false) rfl (.inl ⟨by rfl, ?_⟩) ?_
        · intro _ h; (try dsimp only at h); go_simp <;> first | decide | assumption
        try simp only [Act.put, gA, gS, gZ, sA, sZ, sS]
        refine tk 16 (.slice ba 4 bc) rfl (.inl ⟨by rfl, ?_⟩) ?_
        · intro _ h; (try dsimp only at h); go_simp <;> first | decide | assumption
        try simp only [Act.put, gA, gS, gZ, sA, sZ, sS]
        refine tk 17 (.bool false) rfl (.inl ⟨by rfl, ?_⟩) ?_
        · intro _ h; (try dsimp only at h); go_simp <;> first | decide | assumption
        try simp only [Act.put, gA, gS, gZ, sA, sZ, sS]
        refine wpAnyH_done (by kernel_rfl) ?_ _
        go_wp2_with fail
        go_ret2
        exact ⟨⟨_, rfl⟩, Below.andThen hb1 hHeld⟩
    · have nb' : nanB 8 (bytesL (n : Int) 4) = false := by rw [nb]; exact decide_eq_false k1
      have hres : (Option.map (fun n : Nat => bytesL (n : Int) 4) ((hexF false 0 (l.drop 4)).bind fun n => if 2139095040 < n % 2147483648 then some n else none)) = none := by
        rcases sm with ⟨hf, _⟩ | ⟨hf, _⟩
        · rw [hf]; show Option.map _ (if 2139095040 < n % 2147483648 then some n else none) = none; rw [if_neg k1]; rfl
        · rw [hf]; rfl
      rw [hres]
      clear sm hHx0 k1 nlt nb hres
      go_enter Tryz.func35, Tryz.ntmps35
      go_wp2_with fail
      refine (hS _).mono ?_
      rintro e w ⟨rfl, rfl⟩
      go_wp2_with fail
      refine (form32 _).mono ?_
      rintro e w ⟨rfl, rfl⟩
      go_wp2_with fail
      refine (hH _).mono ?_
      rintro e w ⟨rfl, rfl⟩
      go_wp2_with fail
      refine (bytesD_any _ 4 _ (by decide)).mono ?_
      rintro e w1 ⟨⟨ba, bc, rfl, ht⟩, hb1⟩
      have hbz : ∃ bz, bz = bytesL (n : Int) 4 := ⟨_, rfl⟩
      obtain ⟨bz, EB⟩ := hbz
      rw [← EB] at ht
      go_wp2_with fail
      rw [← EB] at nb'
      have hnan := fun (w : World) (h : Row w ba 4 bz) => nan_any 8 ba 4 bc bz w h (by decide)
      rw [nb'] at hnan
      refine wp_region_held_drew (S := fun x => Below w1.heap.size w1 x) (by kernel_rfl) (Below.drew (Below.refl _ _)) (fun hHeld => ?_)
      refine tk 0 (.slice ba 4 bc) rfl (.inl ⟨by rfl, ?_⟩) ?_
      · intro _ h; (try dsimp only at h); go_simp <;> first | decide | assumption
      try simp only [Act.put, gA, gS, gZ, sA, sZ, sS]
      refine tk 1 (.bool true) rfl (.inl ⟨by rfl, ?_⟩) ?_
      · intro _ h; (try dsimp only at h); go_simp <;> first | decide | assumption
      try simp only [Act.put, gA, gS, gZ, sA, sZ, sS]
      refine tk 2 (.bool true) rfl (.inl ⟨by rfl, ?_⟩) ?_
      · intro _ h; (try dsimp only at h); go_simp <;> first | decide | assumption
      try simp only [Act.put, gA, gS, gZ, sA, sZ, sS]
      refine tk 3 (.int .u8 8) rfl (.inl ⟨by rfl, ?_⟩) ?_
      · intro _ h; (try dsimp only at h); go_simp <;> first | decide | assumption
      try simp only [Act.put, gA, gS, gZ, sA, sZ, sS]
      refine tk 4 (.slice ba 4 bc) rfl (.inl ⟨by rfl, ?_⟩) ?_
      · intro _ h; (try dsimp only at h); go_simp <;> first | decide | assumption
      try simp only [Act.put, gA, gS, gZ, sA, sZ, sS]
      refine wpAnyH_ready (rs := [5]) (by kernel_rfl) (by simp) ?_
      refine AllReadyH.cons rfl (fun K' hK => ?_) AllReadyH.nil
      rw [if_pos (by rfl)]
      simp only [List.getElem_toArray, List.getElem_cons_succ, List.getElem_cons_zero]
      go_wp2_with fail
      refine (hnan _ (ht.row.next hHeld)).mono ?_
      rintro e z ⟨rfl, rfl⟩
      try go_wp2_with fail
      refine hK.out _ _ (hHeld) (fun hHeld => ?_)
      clear hK K'
      try simp only [Act.put, gA, gS, gZ, sA, sZ, sS]
      refine tk 6 (.bool false) rfl (.inl ⟨by rfl, ?_⟩) ?_
      · intro _ h; (try dsimp only at h); go_simp <;> first | decide | assumption
      try simp only [Act.put, gA, gS, gZ, sA, sZ, sS]
      refine tk 7 (.bool false) rfl (.inl ⟨by rfl, ?_⟩) ?_
      · intro _ h; (try dsimp only at h); go_simp <;> first | decide | assumption
      try simp only [Act.put, gA, gS, gZ, sA, sZ, sS]
      refine tk 8 undef rfl (.inr ⟨by rfl, rfl⟩) ?_
      try simp only [Act.put, gA, gS, gZ, sA, sZ, sS]
      refine tk 9 undef rfl (.inr ⟨by rfl, rfl⟩) ?_
      try simp only [Act.put, gA, gS, gZ, sA, sZ, sS]
      refine tk 10 undef rfl (.inr ⟨by rfl, rfl⟩) ?_
      try simp only [Act.put, gA, gS, gZ, sA, sZ, sS]
      refine tk 12 undef rfl (.inr ⟨by rfl, rfl⟩) ?_
      try simp only [Act.put, gA, gS, gZ, sA, sZ, sS]
      refine tk 13 undef rfl (.inr ⟨by rfl, rfl⟩) ?_
      try simp only [Act.put, gA, gS, gZ, sA, sZ, sS]
      refine wpAnyH_ready (rs := [11]) (by kernel_rfl) (by simp) ?_
      refine AllReadyH.cons rfl (fun K' hK => ?_) AllReadyH.nil
      go_simp
      refine hK.out _ _ (by assumption) (fun hHeld => ?_)
      clear hK K'
      try simp only [Act.put, gA, gS, gZ, sA, sZ, sS]
      refine tk 14 undef rfl (.inr ⟨by rfl, rfl⟩) ?_
      try simp only [Act.put, gA, gS, gZ, sA, sZ, sS]
      refine tk 15 (.bool false) rfl (.inl ⟨by rfl, ?_⟩) ?_
      · intro _ h; (try dsimp only at h); go_simp <;> first | decide | assumption
      try simp only [Act.put, gA, gS, gZ, sA, sZ, sS]
      refine tk 16 (.slice ba 4 bc) rfl (.inl ⟨by rfl, ?_⟩) ?_
      · intro _ h; (try dsimp only at h); go_simp <;> first | decide | assumption
      try simp only [Act.put, gA, gS, gZ, sA, sZ, sS]
      refine tk 17 (.bool false) rfl (.inl ⟨by rfl, ?_⟩) ?_
      · intro _ h; (try dsimp only at h); go_simp <;> first | decide | assumption
      try simp only [Act.put, gA, gS, gZ, sA, sZ, sS]
      refine wpAnyH_done (by kernel_rfl) ?_ _
      go_wp2_with fail
      go_ret2
      exact ⟨⟨_, rfl⟩, Below.andThen hb1 hHeld⟩
#print axioms realN32
end Go.Proofs.YtkfmmpolcjbnbaaGreatDoor
