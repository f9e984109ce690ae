/-
  The walks of Right, the program's and the document's.
-/
import Derived.Test.YtndlpjfofjikeaaEq
import Derived.Deep.RegionHeld3
namespace Go.Proofs.Ytndlpjfofjikeaa
open Go.RowKit

/-- The bytes that a frame carries. -/
def carL (n : Int) (ds : List Int) (r : Bool) : List Int := if r then [] else ds.take n.toNat
/-- Is a frame right? -/
def rightB (id n : Int) (ds : List Int) (r : Bool) : Bool := decide (id ≤ 2047) && (decide (0 ≤ n) && (decide (n ≤ 8) && ((List.range 8).all fun i => zb ds i == zb (carL n ds r) i)))
/-- May that byte be? -/
def okB (n : Int) (ds : List Int) (r : Bool) (i : Nat) : Bool := zb ds i == 0 || (decide ((i : Int) < n) && !r)

theorem zb_carL (n : Int) (ds : List Int) (r : Bool) (i : Nat) (h0 : 0 ≤ n) : zb (carL n ds r) i = if (i : Int) < n ∧ r = false then zb ds i else 0 := by
  cases r
  · simp only [carL, zb, List.getD_eq_getElem?_getD, Bool.false_eq_true, if_false, and_true]
    by_cases h : (i : Int) < n
    · rw [if_pos h, List.getElem?_take_of_lt (by omega)]
    · rw [if_neg h, List.getElem?_take_eq_none (by omega)]; rfl
  · simp [carL, zb]
theorem okB_eq (n : Int) (ds : List Int) (r : Bool) (i : Nat) (h0 : 0 ≤ n) : (zb ds i == zb (carL n ds r) i) = okB n ds r i := by
  rw [zb_carL n ds r i h0, okB]
  by_cases h : (i : Int) < n <;> cases r <;> simp [h]
theorem rightB_ok (id n : Int) (ds : List Int) (r : Bool) (h0 : 0 ≤ n) : rightB id n ds r = (decide (id ≤ 2047) && (decide (n ≤ 8) && ((List.range 8).all fun i => okB n ds r i))) := by
  unfold rightB
  simp only [okB_eq n ds r _ h0, h0, decide_true, Bool.true_and]

theorem carried_any (id n d0 d1 d2 d3 d4 d5 d6 d7 : Int) (r : Bool) (w : World) (h0 : 0 ≤ n) (h8 : n ≤ 8) (ho : Oct [d0, d1, d2, d3, d4, d5, d6, d7]) :
    Calls Try.prog 35 #[frV id n d0 d1 d2 d3 d4 d5 d6 d7 r] w fun e w' => ∃ a len cap, e = .returned (.slice a len cap) ∧ len ≤ 8 ∧ Row w' a len (carL n [d0, d1, d2, d3, d4, d5, d6, d7] r) ∧ Below w.heap.size w w' := by
  obtain ⟨m, rfl⟩ := Int.eq_ofNat_of_zero_le h0
  cases r with
  | true =>
    refine (carried_ask id m d0 d1 d2 d3 d4 d5 d6 d7 w).mono ?_
    rintro e w' ⟨rfl, hb⟩
    exact ⟨none, 0, 0, rfl, by decide, row_nil _, hb⟩
  | false =>
    refine (carried_data id d0 d1 d2 d3 d4 d5 d6 d7 m w (by omega)).mono ?_
    rintro e w' ⟨rfl, rfl⟩
    refine ⟨_, m, 8, rfl, by omega, ⟨by simp [carL]; omega, ho.take _, fun _ => ⟨_, 2, rfl, fun i hi => ?_⟩⟩, Below.al (Below.refl _ _) _⟩
    have h9 : i = 0 ∨ i = 1 ∨ i = 2 ∨ i = 3 ∨ i = 4 ∨ i = 5 ∨ i = 6 ∨ i = 7 := by omega
    have e : (carL m [d0, d1, d2, d3, d4, d5, d6, d7] false).getD i 0 = zb [d0, d1, d2, d3, d4, d5, d6, d7] i := by
      have := zb_carL m [d0, d1, d2, d3, d4, d5, d6, d7] false i h0
      rw [if_pos ⟨by omega, rfl⟩] at this
      exact this
    rw [World.cell?_alloc_new, e]
    rcases h9 with rfl | rfl | rfl | rfl | rfl | rfl | rfl | rfl <;> rfl

/-- What is known of a boxed frame stays where nothing old turns. -/
theorem hold_next {w0 w w' : World} {B : Nat} {id n d0 d1 d2 d3 d4 d5 d6 d7 : Int} {r : Bool} (h : Below w0.heap.size w0 w ∧ w.cell? ⟨B, 0, none⟩ = some (.int .u16 id) ∧ w.cell? ⟨B, 1, none⟩ = some (.int .i64 n) ∧ w.cell? ⟨B, 2, none⟩ = some (.int .u8 d0) ∧ w.cell? ⟨B, 3, none⟩ = some (.int .u8 d1) ∧ w.cell? ⟨B, 4, none⟩ = some (.int .u8 d2) ∧ w.cell? ⟨B, 5, none⟩ = some (.int .u8 d3) ∧ w.cell? ⟨B, 6, none⟩ = some (.int .u8 d4) ∧ w.cell? ⟨B, 7, none⟩ = some (.int .u8 d5) ∧ w.cell? ⟨B, 8, none⟩ = some (.int .u8 d6) ∧ w.cell? ⟨B, 9, none⟩ = some (.int .u8 d7) ∧ w.cell? ⟨B, 10, none⟩ = some (.bool r)) (hb : Below w.heap.size w w') : Below w0.heap.size w0 w' ∧ w'.cell? ⟨B, 0, none⟩ = some (.int .u16 id) ∧ w'.cell? ⟨B, 1, none⟩ = some (.int .i64 n) ∧ w'.cell? ⟨B, 2, none⟩ = some (.int .u8 d0) ∧ w'.cell? ⟨B, 3, none⟩ = some (.int .u8 d1) ∧ w'.cell? ⟨B, 4, none⟩ = some (.int .u8 d2) ∧ w'.cell? ⟨B, 5, none⟩ = some (.int .u8 d3) ∧ w'.cell? ⟨B, 6, none⟩ = some (.int .u8 d4) ∧ w'.cell? ⟨B, 7, none⟩ = some (.int .u8 d5) ∧ w'.cell? ⟨B, 8, none⟩ = some (.int .u8 d6) ∧ w'.cell? ⟨B, 9, none⟩ = some (.int .u8 d7) ∧ w'.cell? ⟨B, 10, none⟩ = some (.bool r) := by
  obtain ⟨h0, c0, c1, c2, c3, c4, c5, c6, c7, c8, c9, c10⟩ := h
  have hB : B < w.heap.size := block_lt_of_cell c0
  exact ⟨Below.andThen h0 hb, (hb.cell (p := ⟨B, 0, none⟩) hB).trans c0, (hb.cell (p := ⟨B, 1, none⟩) hB).trans c1, (hb.cell (p := ⟨B, 2, none⟩) hB).trans c2, (hb.cell (p := ⟨B, 3, none⟩) hB).trans c3, (hb.cell (p := ⟨B, 4, none⟩) hB).trans c4, (hb.cell (p := ⟨B, 5, none⟩) hB).trans c5, (hb.cell (p := ⟨B, 6, none⟩) hB).trans c6, (hb.cell (p := ⟨B, 7, none⟩) hB).trans c7, (hb.cell (p := ⟨B, 8, none⟩) hB).trans c8, (hb.cell (p := ⟨B, 9, none⟩) hB).trans c9, (hb.cell (p := ⟨B, 10, none⟩) hB).trans c10⟩

set_option maxHeartbeats 2000000 in
set_option maxRecDepth 100000 in
theorem right_any (id n d0 d1 d2 d3 d4 d5 d6 d7 : Int) (r : Bool) (w : World) (ho : Oct [d0, d1, d2, d3, d4, d5, d6, d7]) :
    Calls Try.prog 25 #[frV id n d0 d1 d2 d3 d4 d5 d6 d7 r] w fun e w' => e = .returned (.bool (rightB id n [d0, d1, d2, d3, d4, d5, d6, d7] r)) ∧ Below w.heap.size w w' := by
  by_cases h1 : 2047 < id
  · have H : Hid (rightB id n [d0, d1, d2, d3, d4, d5, d6, d7] r = false) := by show _ = _; simp [rightB]; omega
    go_enter Try.func25, Try.ntmps25
    go_wp2_with fail
    go_ret
    exact ⟨ret_bool H.out.symm, Below.al (Below.refl _ _) _⟩
  by_cases h2 : n < 0
  · have H : Hid (rightB id n [d0, d1, d2, d3, d4, d5, d6, d7] r = false) := by show _ = _; simp [rightB]; omega
    go_enter Try.func25, Try.ntmps25
    go_wp2_with fail
    go_ret
    exact ⟨ret_bool H.out.symm, Below.al (Below.refl _ _) _⟩
  by_cases h3 : 8 < n
  · have H : Hid (rightB id n [d0, d1, d2, d3, d4, d5, d6, d7] r = false) := by show _ = _; simp [rightB]; omega
    go_enter Try.func25, Try.ntmps25
    go_wp2_with fail
    go_ret
    exact ⟨ret_bool H.out.symm, Below.al (Below.refl _ _) _⟩
  obtain ⟨zs, hz⟩ : ∃ zs, carL n [d0, d1, d2, d3, d4, d5, d6, d7] r = zs := ⟨_, rfl⟩
  have H : Hid (rightB id n [d0, d1, d2, d3, d4, d5, d6, d7] r = same8 d0 d1 d2 d3 d4 d5 d6 d7 (zb zs 0) (zb zs 1) (zb zs 2) (zb zs 3) (zb zs 4) (zb zs 5) (zb zs 6) (zb zs 7)) := by
    show _ = _
    unfold rightB
    rw [hz, decide_eq_true (show id ≤ 2047 by omega), decide_eq_true (show 0 ≤ n by omega), decide_eq_true (show n ≤ 8 by omega)]
    rfl
  have hcar := fun w => carried_any id n d0 d1 d2 d3 d4 d5 d6 d7 r w (by omega) (by omega) ho
  rw [hz] at hcar
  clear hz
  have hq := fun w => eql8 w d0 d1 d2 d3 d4 d5 d6 d7 (zb zs 0) (zb zs 1) (zb zs 2) (zb zs 3) (zb zs 4) (zb zs 5) (zb zs 6) (zb zs 7)
  go_enter Try.func25, Try.ntmps25
  go_wp2_with fail
  go_region_held3 (fun x => Below w.heap.size w x ∧ x.cell? ⟨w.heap.size, 0, none⟩ = some (.int .u16 id) ∧ x.cell? ⟨w.heap.size, 1, none⟩ = some (.int .i64 n) ∧ x.cell? ⟨w.heap.size, 2, none⟩ = some (.int .u8 d0) ∧ x.cell? ⟨w.heap.size, 3, none⟩ = some (.int .u8 d1) ∧ x.cell? ⟨w.heap.size, 4, none⟩ = some (.int .u8 d2) ∧ x.cell? ⟨w.heap.size, 5, none⟩ = some (.int .u8 d3) ∧ x.cell? ⟨w.heap.size, 6, none⟩ = some (.int .u8 d4) ∧ x.cell? ⟨w.heap.size, 7, none⟩ = some (.int .u8 d5) ∧ x.cell? ⟨w.heap.size, 8, none⟩ = some (.int .u8 d6) ∧ x.cell? ⟨w.heap.size, 9, none⟩ = some (.int .u8 d7) ∧ x.cell? ⟨w.heap.size, 10, none⟩ = some (.bool r)) (first | (simp [go_sem]; done) | (refine ⟨Below.drew (Below.al (Below.refl _ _) _), ?_⟩; simp [go_sem]; done) | exact hold_next (by assumption) hb1 | exact hold_next (by assumption) hb2)
    (first | ((go_at_call 35; refine (hcar _).mono ?_; rintro e w1 ⟨a1, l1, c1, rfl, hl1, hr1, hb1⟩)) | ((go_at_call 34; refine (padded_any _ _ _ zs _ hr1 hl1).mono ?_; rintro e w2 ⟨rfl, hb2⟩)))
  have hB : Below w.heap.size w w2 := And.left (by assumption)
  go_wp2_with fail
  go_ret
  exact ⟨ret_bool H.out.symm, hB⟩
#print axioms right_any

theorem box_byte (w : World) (id n d0 d1 d2 d3 d4 d5 d6 d7 : Int) (r : Bool) (i : Nat) (hi : i < 8) : (w.alloc (.cells (frC id n d0 d1 d2 d3 d4 d5 d6 d7 r) 27)).cell? ⟨w.heap.size, 2 + i, none⟩ = some (.int .u8 (zb [d0, d1, d2, d3, d4, d5, d6, d7] i)) := by
  have h9 : i = 0 ∨ i = 1 ∨ i = 2 ∨ i = 3 ∨ i = 4 ∨ i = 5 ∨ i = 6 ∨ i = 7 := by omega
  rw [World.cell?_alloc_new]
  rcases h9 with rfl | rfl | rfl | rfl | rfl | rfl | rfl | rfl <;> rfl

theorem range8 (p : Nat → Bool) : ((List.range 8).all p = true) ↔ ∀ i, i < 8 → p i = true := by simp

set_option maxHeartbeats 2000000 in
set_option maxRecDepth 100000 in
theorem refRight_any (id n d0 d1 d2 d3 d4 d5 d6 d7 : Int) (r : Bool) (w : World) :
    Calls Try.prog 31 #[frV id n d0 d1 d2 d3 d4 d5 d6 d7 r] w fun e w' => e = .returned (.bool (rightB id n [d0, d1, d2, d3, d4, d5, d6, d7] r)) ∧ Below w.heap.size w w' := by
  by_cases h1 : 2047 < id
  · have H : Hid (rightB id n [d0, d1, d2, d3, d4, d5, d6, d7] r = false) := by show _ = _; simp [rightB]; omega
    go_enter Try.func31, Try.ntmps31
    go_wp2_with fail
    go_ret
    exact ⟨ret_bool H.out.symm, Below.al (Below.refl _ _) _⟩
  by_cases h2 : n < 0
  · have H : Hid (rightB id n [d0, d1, d2, d3, d4, d5, d6, d7] r = false) := by show _ = _; simp [rightB]; omega
    go_enter Try.func31, Try.ntmps31
    go_wp2_with fail
    go_ret
    exact ⟨ret_bool H.out.symm, Below.al (Below.refl _ _) _⟩
  by_cases h3 : 8 < n
  · have H : Hid (rightB id n [d0, d1, d2, d3, d4, d5, d6, d7] r = false) := by show _ = _; simp [rightB]; omega
    go_enter Try.func31, Try.ntmps31
    go_wp2_with fail
    go_ret
    exact ⟨ret_bool H.out.symm, Below.al (Below.refl _ _) _⟩
  have H : Hid (rightB id n [d0, d1, d2, d3, d4, d5, d6, d7] r = (List.range 8).all fun i => okB n [d0, d1, d2, d3, d4, d5, d6, d7] r i) := by
    show _ = _
    rw [rightB_ok id n [d0, d1, d2, d3, d4, d5, d6, d7] r (by omega), decide_eq_true (show id ≤ 2047 by omega), decide_eq_true (show n ≤ 8 by omega)]
    rfl
  have hbox := fun i hi => box_byte w id n d0 d1 d2 d3 d4 d5 d6 d7 r i hi
  obtain ⟨ds, HD⟩ : ∃ ds, Hid ([d0, d1, d2, d3, d4, d5, d6, d7] = ds) := ⟨_, rfl⟩
  rw [HD.out] at H hbox
  have HB : Hid (∀ i, i < 8 → (w.alloc (.cells (frC id n d0 d1 d2 d3 d4 d5 d6 d7 r) 27)).cell? ⟨w.heap.size, 2 + i, none⟩ = some (.int .u8 (zb ds i))) := hbox
  clear hbox
  rw [HD.out]
  clear HD
  go_enter Try.func31, Try.ntmps31
  go_wp2_with fail
  go_loop [3] (fun i => ∃ k : Nat, k ≤ 8 ∧ i = .int .i64 (k : Int) ∧ ∀ j, j < k → okB n ds r j = true) (fun i => 8 - (intOf i).toNat)
  case atStart => exact ⟨0, Nat.zero_le _, rfl, fun j hj => absurd hj (Nat.not_lt_zero _)⟩
  case round =>
    obtain ⟨k, hk, rfl, hall⟩ := hrel
    have HA : Hid (∀ j, j < k → okB n ds r j = true) := hall
    clear hall
    by_cases hlt : k < 8
    · have hlt' : (k : Int) < 8 := by omega
      have hc := HB.out k hlt
      obtain ⟨z, HZ⟩ : ∃ z, Hid (zb ds k = z) := ⟨_, rfl⟩
      rw [HZ.out] at hc
      have next : okB n ds r k = true → ∀ j, j < k + 1 → okB n ds r j = true := fun h j hj => by
        by_cases e : j = k
        · subst e; exact h
        · exact HA.out j (by omega)
      have NX : Hid (okB n ds r k = true → ∀ j, j < k + 1 → okB n ds r j = true) := next
      have FL : Hid (okB n ds r k = false → rightB id n ds r = false) := by
        show _ → _
        intro h
        cases hq : rightB id n ds r
        · rfl
        · rw [H.out, range8] at hq
          rw [hq k hlt] at h
          exact h
      clear next
      have OK : Hid (okB n ds r k = (z == 0 || (decide ((k : Int) < n) && !r))) := by show _ = _; rw [← HZ.out]; rfl
      by_cases hz : z = 0
      · go_wp2_with fail
        exact ⟨⟨k + 1, by omega, by go_num, NX.out (by rw [OK.out]; simp [hz])⟩, by simp [intOf]; omega⟩
      · by_cases hn : (k : Int) < n
        · cases r with
          | false =>
            go_wp2_with fail
            exact ⟨⟨k + 1, by omega, by go_num, NX.out (by rw [OK.out]; simp [hn])⟩, by simp [intOf]; omega⟩
          | true =>
            go_wp2_with fail
            go_ret
            exact ⟨ret_bool (FL.out (by rw [OK.out]; simp [hz])).symm, Below.al (Below.refl _ _) _⟩
        · have F : Hid (rightB id n ds r = false) := FL.out (by rw [OK.out]; simp [hz, hn])
          go_wp2_with fail
          go_ret
          exact ⟨ret_bool F.out.symm, Below.al (Below.refl _ _) _⟩
    · obtain rfl : k = 8 := by omega
      go_wp2_with fail
      go_ret
      exact ⟨ret_bool (by rw [H.out, eq_comm, range8]; exact HA.out), Below.al (Below.refl _ _) _⟩
#print axioms refRight_any
end Go.Proofs.Ytndlpjfofjikeaa
