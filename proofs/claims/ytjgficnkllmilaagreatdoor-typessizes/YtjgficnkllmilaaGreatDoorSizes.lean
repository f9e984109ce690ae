/-
  The walk of TypesSizes: true of any type, where the library's two tables hold what is laid.
-/
import Derived.Test.YtjgficnkllmilaaGreatDoorWk5
import Derived.Shelf.Bytes.SlSmallAll
namespace Go.Proofs.YtjgficnkllmilaaGreatDoor
open Pl Go.RowKit

def zeros (n : Nat) : List Int := List.replicate n 0
theorem zeros_oct (n : Nat) : Oct (zeros n) := fun x hx => by simp [zeros] at hx; omega
theorem zeros_getD (n i : Nat) : (zeros n).getD i 0 = 0 := by simp [zeros, List.getD_eq_getElem?_getD, List.getElem?_replicate]; split <;> simp
theorem row_made (w : World) (n : Nat) (T : TypeId) : Row (w.alloc (.cells (madeCells #[.int .u8 0] n) T)) (some ⟨w.heap.size, 0, none⟩) n (zeros n) where
  size := by simp [zeros]
  oct := zeros_oct n
  at_ := fun _ => ⟨_, 0, rfl, fun i hi => by rw [Nat.zero_add, World.cell?_alloc_new, made_at n i hi, zeros_getD]⟩

theorem zero_none (t : Int) (w : World) (h : sizeN t = 0) : Calls Tryz.prog 10 #[.int .u8 t] w fun e w' => e = .returned (.slice none 0 0) ∧ w' = w := by
  have H : Hid (sizeN t = 0) := h
  clear h
  go_enter Tryz.func10, Tryz.ntmps10
  go_wp2_with fail
  refine (size_any _ _).mono ?_
  rw [H.out]
  rintro e x ⟨rfl, rfl⟩
  go_wp2_with fail
  go_ret
  exact ⟨rfl, rfl⟩
theorem zero_some (t : Int) (n : Nat) (w : World) (h : sizeN t = n) (h0 : 0 < n) : Calls Tryz.prog 10 #[.int .u8 t] w fun e w' => e = .returned (.slice (some ⟨w.heap.size, 0, none⟩) n n) ∧ w.alloc (.cells (madeCells #[.int .u8 0] n) 5) = w' := by
  have hb := size_bd t
  have hmk := make_run n (by omega) w
  have H : Hid (sizeN t = n) := h
  have hd : decide ((0 : Int) < (n : Int)) = true := by simp; omega
  clear h hb
  go_enter Tryz.func10, Tryz.ntmps10
  go_wp2_with fail
  refine (size_any _ _).mono ?_
  rw [H.out]
  rintro e x ⟨rfl, rfl⟩
  go_wp2_with fail
  go_ret
  exact ⟨rfl, rfl⟩

theorem cb_zeros (t : Int) (n : Nat) (h : sizeN t = n) (hk : kindN t ≠ 0) : cbN t (zeros n) = 0 := by
  have hz := zeros_getD n 0
  have hl : (zeros n).length = n := by simp [zeros]
  have hs := size_bd t
  have hn : num ((zeros n).take 4) = 0 := by
    have : ∀ m, num (zeros m) = 0 := fun m => by
      induction m with
      | zero => rfl
      | succ m ih => simp only [zeros, List.replicate_succ, num] at ih ⊢; omega
    rw [show (zeros n).take 4 = zeros (min 4 n) from by simp [zeros]]
    exact this _
  unfold cbN
  rw [hl, hz, hn, h, if_neg hk]
  rw [if_neg (by split <;> omega), if_neg (by omega), if_neg (by omega), if_neg (by omega)]

theorem place_nil (t : Int) : placeB t [] = false := by
  unfold placeB
  by_cases h6 : kindN t = 6
  · simp [h6]
  by_cases h7 : kindN t = 7
  · simp [h7]
  have : cbN t [] ≠ 0 := by
    have hk := kind_bd t
    have hs := (kind_size t).2.2.2.2.2.2
    unfold cbN
    by_cases h0 : kindN t = 0
    · rw [if_pos h0]; decide
    have := hs (by omega) (by omega)
    rw [if_neg h0, if_neg (by simp; split <;> omega), if_pos (by simp; omega)]
    decide
  simp [this]

theorem chk_zeros (t : Int) (n : Nat) (h : sizeN t = n) (hk : kindN t ≠ 0) : chkN t (zeros n) [] [] = 0 := by
  unfold chkN
  rw [cb_zeros t n h hk, if_neg (by simp), place_nil, compR_none t _ [] (place_nil t)]
  exact res_0 _ _ _ _ _ rfl (by decide) (by decide)

theorem check_zero (t : Int) (n : Nat) (a : Option Addr) (W X : World) (hb : Below W.heap.size W X) (r1 : Row W a n (zeros n)) (hT : Tabs W) (hm : n ≤ maxLen) (hc : chkN t (zeros n) [] [] = 0) :
    Calls Tryz.prog 13 #[.int .u8 t, .slice a n n, .slice none 0 0, .slice none 0 0] X fun e w' => e = .returned (.int .u32 0) ∧ Below W.heap.size W w' := by
  refine (check_any t a none none n n 0 0 0 0 (zeros n) [] [] X (r1.next hb) (row_nil _) (row_nil _) (hT.next hb).t64 (Nat.le_refl _) hm (by decide) (by decide) (by decide) (by decide)).mono ?_
  rw [hc]
  rintro e w' ⟨rfl, hb'⟩
  exact ⟨rfl, Below.andThen hb hb'⟩

theorem works_from (W X : World) (hb : Below W.heap.size W X) (hT : Tabs W) :
    Calls Tryz.prog 14 #[] X fun e w' => e = .returned (.bool true) ∧ Below W.heap.size W w' := by
  refine (works_any X (hT.next hb)).mono ?_
  rintro e w' ⟨rfl, hb'⟩
  exact ⟨rfl, Below.andThen hb hb'⟩

set_option maxHeartbeats 4000000 in
set_option maxRecDepth 100000 in
theorem sizes_some (t : Int) (n : Nat) (w : World) (hT : Tabs w) (h : sizeN t = n) (h0 : 0 < n) :
    Calls Tryz.prog 3 #[.int .u8 t] w fun e w' => e = .returned (.bool true) ∧ Below w.heap.size w w' := by
  have hb := size_bd t
  have H : Hid (sizeN t = n) := h
  have hd : decide ((0 : Int) < (n : Int)) = true := by simp; omega
  have hn8 : (n : Int) ≤ 8 := by omega
  have hk : kindN t ≠ 0 := fun hk => by have := (kind_size t).1 hk; omega
  have HK : Hid ((kindN t != 0) = true) := by show (kindN t != 0) = true; simp [hk]
  have HL : Hid ((letN t != 0) = true) := by show (letN t != 0) = true; rw [let_right]; simp [hk]
  have HC : Hid (chkN t (zeros n) [] [] = 0) := chk_zeros t n h hk
  clear h hb hk
  go_enter Tryz.func3, Tryz.ntmps3
  go_wp2_with fail
  refine (size_any _ _).mono ?_
  rw [H.out, hd]
  rintro e w ⟨rfl, rfl⟩
  go_wp2_with fail
  refine (refSize_any _ _).mono ?_
  rw [H.out, hd]
  rintro e w ⟨rfl, rfl⟩
  go_wp2_with fail
  refine (zero_some t n _ H.out h0).mono ?_
  rintro e w1 ⟨rfl, rfl⟩
  go_wp2_with fail
  refine (right_any _ _).mono ?_
  rw [HK.out]
  rintro e w2 ⟨rfl, rfl⟩
  go_wp2_with fail
  refine (refRight_any _ _).mono ?_
  rw [HL.out]
  rintro e w2 ⟨rfl, rfl⟩
  go_wp2_with fail
  go_loopw [8] (fun i wr => ∃ k : Nat, k ≤ n ∧ i = .int .i64 (k : Int) ∧ Below w.heap.size w wr ∧ (∀ j, k ≤ j → j < n → wr.cell? ⟨w.heap.size, j, none⟩ = some (.int .u8 0)) ∧ (∀ j, j < n → wr.frozen? ⟨w.heap.size, j, none⟩ = false))
    (fun i _ => n - (intOf i).toNat)
  case atStart =>
    exact ⟨0, Nat.zero_le _, rfl, Below.al (Below.refl _ _) _, fun j _ hj => by rw [World.cell?_alloc_new, made_at n j hj], fun j hj => by simp [go_sem]⟩
  case round =>
    obtain ⟨k, hk, rfl, hb, hc, hs⟩ := hrel
    by_cases hlt : k < n
    · have hck := hc k (Nat.le_refl _) hlt
      have hz := hs k hlt
      have HC' : Hid (∀ j, k ≤ j → j < n → wr.cell? ⟨w.heap.size, j, none⟩ = some (.int .u8 0)) := hc
      have HS : Hid (∀ j, j < n → wr.frozen? ⟨w.heap.size, j, none⟩ = false) := hs
      clear hc hs
      have hlt' : (k : Int) < (n : Int) := by omega
      go_wp2_with fail
      refine ⟨⟨k + 1, by omega, by go_num, hb.setCell (by exact Nat.le_refl _) _, fun j hj hjn => ?_, fun j hj => ?_⟩, by simp [intOf]; omega⟩
      · rw [World.cell?_setCell_other _ _ _ _ (fun h => by have := congrArg Addr.off h; simp at this; omega)]
        exact HC'.out j (by omega) hjn
      · rw [World.frozen?_setCell]; exact HS.out j hj
    · clear hc hs
      have T2 : Tabs wr := hT.next hb
      clear hT
      go_wp2_with fail
      refine (zero_some t n _ H.out h0).mono ?_
      rintro e w1 ⟨rfl, rfl⟩
      go_wp2_with fail
      have hmk := make_run n (by omega)
      have r2 : Row ((wr.alloc (.cells (madeCells #[.int .u8 0] n) 5)).alloc (.cells (madeCells #[.int .u8 0] n) 5)) (some ⟨wr.heap.size + 1, 0, none⟩) n (zeros n) := by
        have := row_made (wr.alloc (.cells (madeCells #[.int .u8 0] n) 5)) n 5
        rw [show (wr.alloc (.cells (madeCells #[.int .u8 0] n) 5)).heap.size = wr.heap.size + 1 from by simp] at this
        exact this
      have r1 := row_made wr n 5
      have a0 := r1.str h0 n
      have a1 := (r1.next (Below.drew (Below.refl _ _))).str h0 n
      have a2 := (r1.next (Below.drew (Below.drew (Below.refl _ _)))).str h0 n
      have a3 := (r1.next (Below.drew (Below.drew (Below.drew (Below.refl _ _))))).str h0 n
      have b0 := fun o => (r1.next (Below.al (Below.refl _ _) o)).str h0 n
      have b1 := fun o => (r1.next (Below.drew (Below.al (Below.refl _ _) o))).str h0 n
      have b2 := fun o => (r1.next (Below.drew (Below.drew (Below.al (Below.refl _ _) o)))).str h0 n
      have b3 := fun o => (r1.next (Below.drew (Below.drew (Below.drew (Below.al (Below.refl _ _) o))))).str h0 n
      have d0 := r2.str h0 n
      have d1 := (r2.next (Below.drew (Below.refl _ _))).str h0 n
      have d2 := (r2.next (Below.drew (Below.drew (Below.refl _ _)))).str h0 n
      have d3 := (r2.next (Below.drew (Below.drew (Below.drew (Below.refl _ _))))).str h0 n
      have R1 : Hid (Row (wr.alloc (.cells (madeCells #[.int .u8 0] n) 5)) (some ⟨wr.heap.size, 0, none⟩) n (zeros n)) := r1
      have TW : Hid (Tabs (wr.alloc (.cells (madeCells #[.int .u8 0] n) 5))) := T2.next (Below.al (Below.refl _ _) _)
      have BW : Hid (Below w.heap.size w (wr.alloc (.cells (madeCells #[.int .u8 0] n) 5))) := Below.al hb _
      have HM : Hid (n ≤ maxLen) := by show n ≤ maxLen; unfold maxLen; omega
      clear r2 r1 T2 hb
      go_region_with (first
        | (go_at_call 11; refine (right_any _ _).mono ?_; rw [HK.out]; rintro e x ⟨rfl, rfl⟩)
        | (go_at_call 13; refine (check_zero t n _ (wr.alloc (.cells (madeCells #[.int .u8 0] n) 5)) _ (by repeat (first | exact Below.refl _ _ | refine Below.al ?_ _ | refine Below.drew ?_)) R1.out TW.out HM.out HC.out).mono ?_; rintro e x ⟨rfl, hbx⟩)
        | (go_at_call 14; refine (works_from (wr.alloc (.cells (madeCells #[.int .u8 0] n) 5)) _ (by repeat (first | exact hbx | refine Below.drew ?_)) TW.out).mono ?_; rintro e y ⟨rfl, hby⟩))
      all_goals go_wp2_with fail
      all_goals go_ret
      all_goals exact ⟨rfl, Below.andThen BW.out hby⟩

end Go.Proofs.YtjgficnkllmilaaGreatDoor
