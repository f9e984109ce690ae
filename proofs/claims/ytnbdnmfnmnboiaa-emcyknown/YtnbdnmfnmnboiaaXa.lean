/-
  The walks of frame's carried, Right, Data.
-/
import Derived.Test.YtnbdnmfnmnboiaaZs
namespace Go.Proofs.Ytnbdnmfnmnboiaa
open Go.RowKit

set_option maxHeartbeats 1000000 in
set_option maxRecDepth 100000 in
theorem carried_ask (id n d0 d1 d2 d3 d4 d5 d6 d7 : Int) (w : World) :
    Calls Try.prog 43 #[frV id n d0 d1 d2 d3 d4 d5 d6 d7 true] w fun e w' => e = .returned (.slice none 0 0) ∧ Below w.heap.size w w' := by
  go_enter Try.func43, Try.ntmps43
  go_wp2_with fail
  go_ret
  exact ⟨rfl, Below.al (Below.refl _ _) _⟩

set_option maxHeartbeats 1000000 in
set_option maxRecDepth 100000 in
theorem carried_data (id d0 d1 d2 d3 d4 d5 d6 d7 : Int) (n : Nat) (w : World) (h8 : n ≤ 8) :
    Calls Try.prog 43 #[frV id n d0 d1 d2 d3 d4 d5 d6 d7 false] w fun e w' => e = .returned (.slice (some ⟨w.heap.size, 2, none⟩) n 8) ∧ w' = w.alloc (.cells (frC id n d0 d1 d2 d3 d4 d5 d6 d7 false) 40) := by
  have h8' : (n : Int) ≤ 8 := by omega
  go_enter Try.func43, Try.ntmps43
  go_wp2_with fail
  go_ret
  exact ⟨rfl, rfl⟩

/-- The bytes that a frame carries. -/
def carL (n : Int) (ds : List Int) (r : Bool) : List Int := if r then [] else ds.take n.toNat
/-- Is a frame right? -/
def rightB (id n : Int) (ds : List Int) (r : Bool) : Bool := decide (id ≤ 2047) && (decide (0 ≤ n) && (decide (n ≤ 8) && ((List.range 8).all fun i => zb ds i == zb (carL n ds r) i)))
/-- May that byte be? -/
def okB (n : Int) (ds : List Int) (r : Bool) (i : Nat) : Bool := zb ds i == 0 || (decide ((i : Int) < n) && !r)

theorem zb_carL (n : Int) (ds : List Int) (r : Bool) (i : Nat) (h0 : 0 ≤ n) : zb (carL n ds r) i = if (i : Int) < n ∧ r = false then zb ds i else 0 := by
  cases r
  · simp only [carL, zb, List.getD_eq_getElem?_getD, Bool.false_eq_true, if_false, and_true]
    by_cases h : (i : Int) < n
    · rw [if_pos h, List.getElem?_take_of_lt (by omega)]
    · rw [if_neg h, List.getElem?_take_eq_none (by omega)]; rfl
  · simp [carL, zb]
theorem okB_eq (n : Int) (ds : List Int) (r : Bool) (i : Nat) (h0 : 0 ≤ n) : (zb ds i == zb (carL n ds r) i) = okB n ds r i := by
  rw [zb_carL n ds r i h0, okB]
  by_cases h : (i : Int) < n <;> cases r <;> simp [h]
theorem rightB_ok (id n : Int) (ds : List Int) (r : Bool) (h0 : 0 ≤ n) : rightB id n ds r = (decide (id ≤ 2047) && (decide (n ≤ 8) && ((List.range 8).all fun i => okB n ds r i))) := by
  unfold rightB
  simp only [okB_eq n ds r _ h0, h0, decide_true, Bool.true_and]

theorem carried_any (id n d0 d1 d2 d3 d4 d5 d6 d7 : Int) (r : Bool) (w : World) (h0 : 0 ≤ n) (h8 : n ≤ 8) (ho : Oct [d0, d1, d2, d3, d4, d5, d6, d7]) :
    Calls Try.prog 43 #[frV id n d0 d1 d2 d3 d4 d5 d6 d7 r] w fun e w' => ∃ a len cap, e = .returned (.slice a len cap) ∧ len ≤ 8 ∧ Row w' a len (carL n [d0, d1, d2, d3, d4, d5, d6, d7] r) ∧ Below w.heap.size w w' := by
  obtain ⟨m, rfl⟩ := Int.eq_ofNat_of_zero_le h0
  cases r with
  | true =>
    refine (carried_ask id m d0 d1 d2 d3 d4 d5 d6 d7 w).mono ?_
    rintro e w' ⟨rfl, hb⟩
    exact ⟨none, 0, 0, rfl, by decide, row_nil _, hb⟩
  | false =>
    refine (carried_data id d0 d1 d2 d3 d4 d5 d6 d7 m w (by omega)).mono ?_
    rintro e w' ⟨rfl, rfl⟩
    refine ⟨_, m, 8, rfl, by omega, ⟨by simp [carL]; omega, ho.take _, fun _ => ⟨_, 2, rfl, fun i hi => ?_⟩⟩, Below.al (Below.refl _ _) _⟩
    have h9 : i = 0 ∨ i = 1 ∨ i = 2 ∨ i = 3 ∨ i = 4 ∨ i = 5 ∨ i = 6 ∨ i = 7 := by omega
    have e : (carL m [d0, d1, d2, d3, d4, d5, d6, d7] false).getD i 0 = zb [d0, d1, d2, d3, d4, d5, d6, d7] i := by
      have := zb_carL m [d0, d1, d2, d3, d4, d5, d6, d7] false i h0
      rw [if_pos ⟨by omega, rfl⟩] at this
      exact this
    rw [World.cell?_alloc_new, e]
    rcases h9 with rfl | rfl | rfl | rfl | rfl | rfl | rfl | rfl <;> rfl

/-- What is known of a boxed frame stays where nothing old turns. -/
theorem hold_next {w0 w w' : World} {B : Nat} {id n d0 d1 d2 d3 d4 d5 d6 d7 : Int} {r : Bool} (h : Below w0.heap.size w0 w ∧ w.cell? ⟨B, 0, none⟩ = some (.int .u16 id) ∧ w.cell? ⟨B, 1, none⟩ = some (.int .i64 n) ∧ w.cell? ⟨B, 2, none⟩ = some (.int .u8 d0) ∧ w.cell? ⟨B, 3, none⟩ = some (.int .u8 d1) ∧ w.cell? ⟨B, 4, none⟩ = some (.int .u8 d2) ∧ w.cell? ⟨B, 5, none⟩ = some (.int .u8 d3) ∧ w.cell? ⟨B, 6, none⟩ = some (.int .u8 d4) ∧ w.cell? ⟨B, 7, none⟩ = some (.int .u8 d5) ∧ w.cell? ⟨B, 8, none⟩ = some (.int .u8 d6) ∧ w.cell? ⟨B, 9, none⟩ = some (.int .u8 d7) ∧ w.cell? ⟨B, 10, none⟩ = some (.bool r)) (hb : Below w.heap.size w w') : Below w0.heap.size w0 w' ∧ w'.cell? ⟨B, 0, none⟩ = some (.int .u16 id) ∧ w'.cell? ⟨B, 1, none⟩ = some (.int .i64 n) ∧ w'.cell? ⟨B, 2, none⟩ = some (.int .u8 d0) ∧ w'.cell? ⟨B, 3, none⟩ = some (.int .u8 d1) ∧ w'.cell? ⟨B, 4, none⟩ = some (.int .u8 d2) ∧ w'.cell? ⟨B, 5, none⟩ = some (.int .u8 d3) ∧ w'.cell? ⟨B, 6, none⟩ = some (.int .u8 d4) ∧ w'.cell? ⟨B, 7, none⟩ = some (.int .u8 d5) ∧ w'.cell? ⟨B, 8, none⟩ = some (.int .u8 d6) ∧ w'.cell? ⟨B, 9, none⟩ = some (.int .u8 d7) ∧ w'.cell? ⟨B, 10, none⟩ = some (.bool r) := by
  obtain ⟨h0, c0, c1, c2, c3, c4, c5, c6, c7, c8, c9, c10⟩ := h
  have hB : B < w.heap.size := block_lt_of_cell c0
  exact ⟨Below.andThen h0 hb, (hb.cell (p := ⟨B, 0, none⟩) hB).trans c0, (hb.cell (p := ⟨B, 1, none⟩) hB).trans c1, (hb.cell (p := ⟨B, 2, none⟩) hB).trans c2, (hb.cell (p := ⟨B, 3, none⟩) hB).trans c3, (hb.cell (p := ⟨B, 4, none⟩) hB).trans c4, (hb.cell (p := ⟨B, 5, none⟩) hB).trans c5, (hb.cell (p := ⟨B, 6, none⟩) hB).trans c6, (hb.cell (p := ⟨B, 7, none⟩) hB).trans c7, (hb.cell (p := ⟨B, 8, none⟩) hB).trans c8, (hb.cell (p := ⟨B, 9, none⟩) hB).trans c9, (hb.cell (p := ⟨B, 10, none⟩) hB).trans c10⟩

set_option maxHeartbeats 2000000 in
set_option maxRecDepth 100000 in
theorem right_any (id n d0 d1 d2 d3 d4 d5 d6 d7 : Int) (r : Bool) (w : World) (ho : Oct [d0, d1, d2, d3, d4, d5, d6, d7]) :
    Calls Try.prog 42 #[frV id n d0 d1 d2 d3 d4 d5 d6 d7 r] w fun e w' => e = .returned (.bool (rightB id n [d0, d1, d2, d3, d4, d5, d6, d7] r)) ∧ Below w.heap.size w w' := by
  by_cases h1 : 2047 < id
  · have H : Hid (rightB id n [d0, d1, d2, d3, d4, d5, d6, d7] r = false) := by show _ = _; simp [rightB]; omega
    go_enter Try.func42, Try.ntmps42
    go_wp2_with fail
    go_ret
    exact ⟨ret_bool H.out.symm, Below.al (Below.refl _ _) _⟩
  by_cases h2 : n < 0
  · have H : Hid (rightB id n [d0, d1, d2, d3, d4, d5, d6, d7] r = false) := by show _ = _; simp [rightB]; omega
    go_enter Try.func42, Try.ntmps42
    go_wp2_with fail
    go_ret
    exact ⟨ret_bool H.out.symm, Below.al (Below.refl _ _) _⟩
  by_cases h3 : 8 < n
  · have H : Hid (rightB id n [d0, d1, d2, d3, d4, d5, d6, d7] r = false) := by show _ = _; simp [rightB]; omega
    go_enter Try.func42, Try.ntmps42
    go_wp2_with fail
    go_ret
    exact ⟨ret_bool H.out.symm, Below.al (Below.refl _ _) _⟩
  obtain ⟨zs, hz⟩ : ∃ zs, carL n [d0, d1, d2, d3, d4, d5, d6, d7] r = zs := ⟨_, rfl⟩
  have H : Hid (rightB id n [d0, d1, d2, d3, d4, d5, d6, d7] r = same8 d0 d1 d2 d3 d4 d5 d6 d7 (zb zs 0) (zb zs 1) (zb zs 2) (zb zs 3) (zb zs 4) (zb zs 5) (zb zs 6) (zb zs 7)) := by
    show _ = _
    unfold rightB
    rw [hz, decide_eq_true (show id ≤ 2047 by omega), decide_eq_true (show 0 ≤ n by omega), decide_eq_true (show n ≤ 8 by omega)]
    rfl
  have hcar := fun w => carried_any id n d0 d1 d2 d3 d4 d5 d6 d7 r w (by omega) (by omega) ho
  rw [hz] at hcar
  clear hz
  have hq := fun w => eql8 w d0 d1 d2 d3 d4 d5 d6 d7 (zb zs 0) (zb zs 1) (zb zs 2) (zb zs 3) (zb zs 4) (zb zs 5) (zb zs 6) (zb zs 7)
  go_enter Try.func42, Try.ntmps42
  go_wp2_with fail
  go_region_held3 (fun x => Below w.heap.size w x ∧ x.cell? ⟨w.heap.size, 0, none⟩ = some (.int .u16 id) ∧ x.cell? ⟨w.heap.size, 1, none⟩ = some (.int .i64 n) ∧ x.cell? ⟨w.heap.size, 2, none⟩ = some (.int .u8 d0) ∧ x.cell? ⟨w.heap.size, 3, none⟩ = some (.int .u8 d1) ∧ x.cell? ⟨w.heap.size, 4, none⟩ = some (.int .u8 d2) ∧ x.cell? ⟨w.heap.size, 5, none⟩ = some (.int .u8 d3) ∧ x.cell? ⟨w.heap.size, 6, none⟩ = some (.int .u8 d4) ∧ x.cell? ⟨w.heap.size, 7, none⟩ = some (.int .u8 d5) ∧ x.cell? ⟨w.heap.size, 8, none⟩ = some (.int .u8 d6) ∧ x.cell? ⟨w.heap.size, 9, none⟩ = some (.int .u8 d7) ∧ x.cell? ⟨w.heap.size, 10, none⟩ = some (.bool r)) (first | (simp [go_sem]; done) | (refine ⟨Below.drew (Below.al (Below.refl _ _) _), ?_⟩; simp [go_sem]; done) | exact hold_next (by assumption) hb1 | exact hold_next (by assumption) hb2)
    (first | ((go_at_call 43; refine (hcar _).mono ?_; rintro e w1 ⟨a1, l1, c1, rfl, hl1, hr1, hb1⟩)) | ((go_at_call 46; refine (padded_any _ _ _ zs _ hr1 hl1).mono ?_; rintro e w2 ⟨rfl, hb2⟩)))
  have hB : Below w.heap.size w w2 := And.left (by assumption)
  go_wp2_with fail
  go_ret
  exact ⟨ret_bool H.out.symm, hB⟩

/-- A right frame's bytes. -/
def datL (id n : Int) (ds : List Int) (r : Bool) : List Int := if rightB id n ds r then carL n ds r else []

theorem rightB_n (id n : Int) (ds : List Int) (r : Bool) (h : rightB id n ds r = true) : id ≤ 2047 ∧ 0 ≤ n ∧ n ≤ 8 := by
  simp [rightB] at h
  omega

/-- A frame in a box of its own. -/
theorem boxed (w : World) (id n d0 d1 d2 d3 d4 d5 d6 d7 : Int) (r : Bool) : Below w.heap.size w (w.alloc (.cells (frC id n d0 d1 d2 d3 d4 d5 d6 d7 r) 40)) ∧ (w.alloc (.cells (frC id n d0 d1 d2 d3 d4 d5 d6 d7 r) 40)).cell? ⟨w.heap.size, 0, none⟩ = some (.int .u16 id) ∧ (w.alloc (.cells (frC id n d0 d1 d2 d3 d4 d5 d6 d7 r) 40)).cell? ⟨w.heap.size, 1, none⟩ = some (.int .i64 n) ∧ (w.alloc (.cells (frC id n d0 d1 d2 d3 d4 d5 d6 d7 r) 40)).cell? ⟨w.heap.size, 2, none⟩ = some (.int .u8 d0) ∧ (w.alloc (.cells (frC id n d0 d1 d2 d3 d4 d5 d6 d7 r) 40)).cell? ⟨w.heap.size, 3, none⟩ = some (.int .u8 d1) ∧ (w.alloc (.cells (frC id n d0 d1 d2 d3 d4 d5 d6 d7 r) 40)).cell? ⟨w.heap.size, 4, none⟩ = some (.int .u8 d2) ∧ (w.alloc (.cells (frC id n d0 d1 d2 d3 d4 d5 d6 d7 r) 40)).cell? ⟨w.heap.size, 5, none⟩ = some (.int .u8 d3) ∧ (w.alloc (.cells (frC id n d0 d1 d2 d3 d4 d5 d6 d7 r) 40)).cell? ⟨w.heap.size, 6, none⟩ = some (.int .u8 d4) ∧ (w.alloc (.cells (frC id n d0 d1 d2 d3 d4 d5 d6 d7 r) 40)).cell? ⟨w.heap.size, 7, none⟩ = some (.int .u8 d5) ∧ (w.alloc (.cells (frC id n d0 d1 d2 d3 d4 d5 d6 d7 r) 40)).cell? ⟨w.heap.size, 8, none⟩ = some (.int .u8 d6) ∧ (w.alloc (.cells (frC id n d0 d1 d2 d3 d4 d5 d6 d7 r) 40)).cell? ⟨w.heap.size, 9, none⟩ = some (.int .u8 d7) ∧ (w.alloc (.cells (frC id n d0 d1 d2 d3 d4 d5 d6 d7 r) 40)).cell? ⟨w.heap.size, 10, none⟩ = some (.bool r) := by
  refine ⟨Below.al (Below.refl _ _) _, ?_⟩
  simp [go_sem]

set_option maxHeartbeats 2000000 in
set_option maxRecDepth 100000 in
theorem data_any (id n d0 d1 d2 d3 d4 d5 d6 d7 : Int) (r : Bool) (w : World) (ho : Oct [d0, d1, d2, d3, d4, d5, d6, d7]) :
    Calls Try.prog 34 #[frV id n d0 d1 d2 d3 d4 d5 d6 d7 r] w fun e w' => ∃ a len cap, e = .returned (.slice a len cap) ∧ len ≤ 8 ∧ len ≤ cap ∧ Row w' a len (datL id n [d0, d1, d2, d3, d4, d5, d6, d7] r) ∧ (∀ b off, a = some ⟨b, off, none⟩ → w.heap.size ≤ b ∧ off = 0 ∧ ∀ i, i < len → w'.frozen? ⟨b, i, none⟩ = false) ∧ Below w.heap.size w w' := by
  have hR := fun w => right_any id n d0 d1 d2 d3 d4 d5 d6 d7 r w ho
  cases hq : rightB id n [d0, d1, d2, d3, d4, d5, d6, d7] r with
  | false =>
    have e : datL id n [d0, d1, d2, d3, d4, d5, d6, d7] r = [] := by simp [datL, hq]
    rw [e]
    rw [hq] at hR
    clear hq
    go_enter Try.func34, Try.ntmps34
    go_wp2_with fail
    refine (hR _).mono ?_
    rintro e w1 ⟨rfl, hb1⟩
    go_wp2_with fail
    go_ret
    exact ⟨none, 0, 0, rfl, by decide, by decide, row_nil _, (fun b off h => by cases h), Below.andThen (Below.al (Below.refl _ _) _) hb1⟩
  | true =>
    have e : datL id n [d0, d1, d2, d3, d4, d5, d6, d7] r = carL n [d0, d1, d2, d3, d4, d5, d6, d7] r := by simp [datL, hq]
    rw [e]
    obtain ⟨_, h0, h8⟩ := rightB_n _ _ _ _ hq
    rw [hq] at hR
    clear hq
    have hC := fun w => carried_any id n d0 d1 d2 d3 d4 d5 d6 d7 r w h0 h8 ho
    go_enter Try.func34, Try.ntmps34
    go_wp2_with fail
    refine (hR _).mono ?_
    rintro e w1 ⟨rfl, hb1⟩
    obtain ⟨B1, c0, c1, c2, c3, c4, c5, c6, c7, c8, c9, c10⟩ := hold_next (boxed w id n d0 d1 d2 d3 d4 d5 d6 d7 r) hb1
    clear hb1
    go_wp2_with fail
    refine (hC _).mono ?_
    rintro e w2 ⟨a2, l2, k2, rfl, hl2, hr2, hb2⟩
    have B2 : Below w.heap.size w w2 := Below.andThen B1 hb2
    clear c0 c1 c2 c3 c4 c5 c6 c7 c8 c9 c10 hb2 B1
    go_wp2_with (at_builtin; refine wpList_append_nil rfl _ _ rfl rfl _ _ _ _ rfl hr2 (by omega) ?_)
    intro a3 k3 w3 h1 h2 h3 h4 h5
    go_wp2_with fail
    go_ret
    exact ⟨a3, l2, k3, rfl, hl2, h1, h3, fun b off e => ⟨by have := (h4 b off e).1; have := B2.size; omega, (h4 b off e).2⟩, Below.andThen B2 h5⟩
#print axioms data_any
end Go.Proofs.Ytnbdnmfnmnboiaa
