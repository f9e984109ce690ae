/-
  The walks of the document's Right and Make.
-/
import Derived.Test.YtjfjfohabpjemaaYb
import Derived.Deep.RegionHeld3
namespace Go.Proofs.Ytjfjfohabpjemaa
open Go.RowKit

/-- The bytes that a frame carries. -/
def carL (n : Int) (ds : List Int) (r : Bool) : List Int := if r then [] else ds.take n.toNat
/-- Is a frame right? -/
def rightB (id n : Int) (ds : List Int) (r : Bool) : Bool := decide (id ≤ 2047) && (decide (0 ≤ n) && (decide (n ≤ 8) && ((List.range 8).all fun i => zb ds i == zb (carL n ds r) i)))
/-- May that byte be? -/
def okB (n : Int) (ds : List Int) (r : Bool) (i : Nat) : Bool := zb ds i == 0 || (decide ((i : Int) < n) && !r)

theorem zb_carL (n : Int) (ds : List Int) (r : Bool) (i : Nat) (h0 : 0 ≤ n) : zb (carL n ds r) i = if (i : Int) < n ∧ r = false then zb ds i else 0 := by
  cases r
  · simp only [carL, zb, List.getD_eq_getElem?_getD, Bool.false_eq_true, if_false, and_true]
    by_cases h : (i : Int) < n
    · rw [if_pos h, List.getElem?_take_of_lt (by omega)]
    · rw [if_neg h, List.getElem?_take_eq_none (by omega)]; rfl
  · simp [carL, zb]
theorem okB_eq (n : Int) (ds : List Int) (r : Bool) (i : Nat) (h0 : 0 ≤ n) : (zb ds i == zb (carL n ds r) i) = okB n ds r i := by
  rw [zb_carL n ds r i h0, okB]
  by_cases h : (i : Int) < n <;> cases r <;> simp [h]
theorem rightB_ok (id n : Int) (ds : List Int) (r : Bool) (h0 : 0 ≤ n) : rightB id n ds r = (decide (id ≤ 2047) && (decide (n ≤ 8) && ((List.range 8).all fun i => okB n ds r i))) := by
  unfold rightB
  simp only [okB_eq n ds r _ h0, h0, decide_true, Bool.true_and]

theorem box_byte (w : World) (id n d0 d1 d2 d3 d4 d5 d6 d7 : Int) (r : Bool) (i : Nat) (hi : i < 8) : (w.alloc (.cells (frC id n d0 d1 d2 d3 d4 d5 d6 d7 r) 36)).cell? ⟨w.heap.size, 2 + i, none⟩ = some (.int .u8 (zb [d0, d1, d2, d3, d4, d5, d6, d7] i)) := by
  have h9 : i = 0 ∨ i = 1 ∨ i = 2 ∨ i = 3 ∨ i = 4 ∨ i = 5 ∨ i = 6 ∨ i = 7 := by omega
  rw [World.cell?_alloc_new]
  rcases h9 with rfl | rfl | rfl | rfl | rfl | rfl | rfl | rfl <;> rfl

theorem range8 (p : Nat → Bool) : ((List.range 8).all p = true) ↔ ∀ i, i < 8 → p i = true := by simp

set_option maxHeartbeats 2000000 in
set_option maxRecDepth 100000 in
theorem refRight_any (id n d0 d1 d2 d3 d4 d5 d6 d7 : Int) (r : Bool) (w : World) :
    Calls Try.prog 29 #[frV id n d0 d1 d2 d3 d4 d5 d6 d7 r] w fun e w' => e = .returned (.bool (rightB id n [d0, d1, d2, d3, d4, d5, d6, d7] r)) ∧ Below w.heap.size w w' := by
  by_cases h1 : 2047 < id
  · have H : Hid (rightB id n [d0, d1, d2, d3, d4, d5, d6, d7] r = false) := by show _ = _; simp [rightB]; omega
    go_enter Try.func29, Try.ntmps29
    go_wp2_with fail
    go_ret
    exact ⟨ret_bool H.out.symm, Below.al (Below.refl _ _) _⟩
  by_cases h2 : n < 0
  · have H : Hid (rightB id n [d0, d1, d2, d3, d4, d5, d6, d7] r = false) := by show _ = _; simp [rightB]; omega
    go_enter Try.func29, Try.ntmps29
    go_wp2_with fail
    go_ret
    exact ⟨ret_bool H.out.symm, Below.al (Below.refl _ _) _⟩
  by_cases h3 : 8 < n
  · have H : Hid (rightB id n [d0, d1, d2, d3, d4, d5, d6, d7] r = false) := by show _ = _; simp [rightB]; omega
    go_enter Try.func29, Try.ntmps29
    go_wp2_with fail
    go_ret
    exact ⟨ret_bool H.out.symm, Below.al (Below.refl _ _) _⟩
  have H : Hid (rightB id n [d0, d1, d2, d3, d4, d5, d6, d7] r = (List.range 8).all fun i => okB n [d0, d1, d2, d3, d4, d5, d6, d7] r i) := by
    show _ = _
    rw [rightB_ok id n [d0, d1, d2, d3, d4, d5, d6, d7] r (by omega), decide_eq_true (show id ≤ 2047 by omega), decide_eq_true (show n ≤ 8 by omega)]
    rfl
  have hbox := fun i hi => box_byte w id n d0 d1 d2 d3 d4 d5 d6 d7 r i hi
  obtain ⟨ds, HD⟩ : ∃ ds, Hid ([d0, d1, d2, d3, d4, d5, d6, d7] = ds) := ⟨_, rfl⟩
  rw [HD.out] at H hbox
  have HB : Hid (∀ i, i < 8 → (w.alloc (.cells (frC id n d0 d1 d2 d3 d4 d5 d6 d7 r) 36)).cell? ⟨w.heap.size, 2 + i, none⟩ = some (.int .u8 (zb ds i))) := hbox
  clear hbox
  rw [HD.out]
  clear HD
  go_enter Try.func29, Try.ntmps29
  go_wp2_with fail
  go_loop [3] (fun i => ∃ k : Nat, k ≤ 8 ∧ i = .int .i64 (k : Int) ∧ ∀ j, j < k → okB n ds r j = true) (fun i => 8 - (intOf i).toNat)
  case atStart => exact ⟨0, Nat.zero_le _, rfl, fun j hj => absurd hj (Nat.not_lt_zero _)⟩
  case round =>
    obtain ⟨k, hk, rfl, hall⟩ := hrel
    have HA : Hid (∀ j, j < k → okB n ds r j = true) := hall
    clear hall
    by_cases hlt : k < 8
    · have hlt' : (k : Int) < 8 := by omega
      have hc := HB.out k hlt
      obtain ⟨z, HZ⟩ : ∃ z, Hid (zb ds k = z) := ⟨_, rfl⟩
      rw [HZ.out] at hc
      have next : okB n ds r k = true → ∀ j, j < k + 1 → okB n ds r j = true := fun h j hj => by
        by_cases e : j = k
        · subst e; exact h
        · exact HA.out j (by omega)
      have NX : Hid (okB n ds r k = true → ∀ j, j < k + 1 → okB n ds r j = true) := next
      have FL : Hid (okB n ds r k = false → rightB id n ds r = false) := by
        show _ → _
        intro h
        cases hq : rightB id n ds r
        · rfl
        · rw [H.out, range8] at hq
          rw [hq k hlt] at h
          exact h
      clear next
      have OK : Hid (okB n ds r k = (z == 0 || (decide ((k : Int) < n) && !r))) := by show _ = _; rw [← HZ.out]; rfl
      by_cases hz : z = 0
      · go_wp2_with fail
        exact ⟨⟨k + 1, by omega, by go_num, NX.out (by rw [OK.out]; simp [hz])⟩, by simp [intOf]; omega⟩
      · by_cases hn : (k : Int) < n
        · cases r with
          | false =>
            go_wp2_with fail
            exact ⟨⟨k + 1, by omega, by go_num, NX.out (by rw [OK.out]; simp [hn])⟩, by simp [intOf]; omega⟩
          | true =>
            go_wp2_with fail
            go_ret
            exact ⟨ret_bool (FL.out (by rw [OK.out]; simp [hz])).symm, Below.al (Below.refl _ _) _⟩
        · have F : Hid (rightB id n ds r = false) := FL.out (by rw [OK.out]; simp [hz, hn])
          go_wp2_with fail
          go_ret
          exact ⟨ret_bool F.out.symm, Below.al (Below.refl _ _) _⟩
    · obtain rfl : k = 8 := by omega
      go_wp2_with fail
      go_ret
      exact ⟨ret_bool (by rw [H.out, eq_comm, range8]; exact HA.out), Below.al (Below.refl _ _) _⟩




/-- A frame's cells, the bytes that were put in so far. -/
abbrev frP (id n : Int) (zs : List Int) (k : Nat) : Array Value := frC id n (if 0 < k then zb zs 0 else 0) (if 1 < k then zb zs 1 else 0) (if 2 < k then zb zs 2 else 0) (if 3 < k then zb zs 3 else 0) (if 4 < k then zb zs 4 else 0) (if 5 < k then zb zs 5 else 0) (if 6 < k then zb zs 6 else 0) (if 7 < k then zb zs 7 else 0) false

theorem frP_step (id n : Int) (zs : List Int) (k : Nat) (h : k < 8) : (frP id n zs k).setIfInBounds (2 + k) (.int .u8 (zb zs k)) = frP id n zs (k + 1) := by
  have h9 : k = 0 ∨ k = 1 ∨ k = 2 ∨ k = 3 ∨ k = 4 ∨ k = 5 ∨ k = 6 ∨ k = 7 := by omega
  rcases h9 with rfl | rfl | rfl | rfl | rfl | rfl | rfl | rfl <;> rfl
theorem frP_has (id n : Int) (zs : List Int) (k : Nat) (h : k < 8) : ∃ v, (frP id n zs k)[2 + k]? = some v := ⟨_, Array.getElem?_eq_getElem (by show 2 + k < 11; omega)⟩
theorem frP_end (id : Int) (zs : List Int) (len : Nat) (hl : zs.length = len) : frP id len zs len = frC id len (zb zs 0) (zb zs 1) (zb zs 2) (zb zs 3) (zb zs 4) (zb zs 5) (zb zs 6) (zb zs 7) false := by
  have e : ∀ i, (if i < len then zb zs i else 0) = zb zs i := by
    intro i
    by_cases h : i < len
    · rw [if_pos h]
    · rw [if_neg h]; simp [zb, List.getD_eq_getElem?_getD, hl, h]
  unfold frP
  simp only [e]

set_option maxHeartbeats 2000000 in
set_option maxRecDepth 100000 in
theorem refMake_any (id : Int) (a : Option Addr) (len cap : Nat) (zs : List Int) (w : World) (hr : Row w a len zs) :
    Calls Try.prog 24 #[.int .u16 id, .slice a len cap] w fun e w' => e = .returned (mkR id zs).tup ∧ Below w.heap.size w w' := by
  have hs := hr.size
  by_cases h1 : 2047 < id
  · rw [mkR_bad id zs (.inl h1)]
    go_enter Try.func24, Try.ntmps24
    go_wp2_with fail
    exact bodyPost_ret (v := (noFr 2).tup) (by simp [results, Try.results24, go_sem, noFr]) rfl ⟨rfl, Below.al (Below.refl _ _) _⟩
  by_cases h2 : (8 : Int) < (len : Int)
  · rw [mkR_bad id zs (.inr (by omega))]
    go_enter Try.func24, Try.ntmps24
    go_wp2_with fail
    exact bodyPost_ret (v := (noFr 2).tup) (by simp [results, Try.results24, go_sem, noFr]) rfl ⟨rfl, Below.al (Below.refl _ _) _⟩
  rw [mkR_good id zs (by omega) (by omega), hs]
  have HS : Hid (zs.length = len) := hs
  have HE : Hid (frP id len zs len = frC id len (zb zs 0) (zb zs 1) (zb zs 2) (zb zs 3) (zb zs 4) (zb zs 5) (zb zs 6) (zb zs 7) false) := frP_end id zs len hs
  clear hs
  go_enter Try.func24, Try.ntmps24
  go_wp2_with fail
  go_loopw [7] (fun i wr => ∃ k : Nat, k ≤ len ∧ i = .int .i64 (k : Int) ∧ wr = (w.alloc (.cells (frC 0 0 0 0 0 0 0 0 0 0 false) 36)).alloc (.cells (frP id len zs k) 36)) (fun i _ => len - (intOf i).toNat)
  case atStart => exact ⟨0, Nat.zero_le _, rfl, rfl⟩
  case round =>
    obtain ⟨k, hk, rfl, rfl⟩ := hrel
    have hB : Below w.heap.size w ((w.alloc (.cells (frC 0 0 0 0 0 0 0 0 0 0 false) 36)).alloc (.cells (frP id len zs k) 36)) := Below.al (Below.al (Below.refl _ _) _) _
    by_cases hlt : k < len
    · have hr' := hr.next hB
      obtain ⟨b, off, rfl, hc⟩ := hr'.at_ (by omega)
      have hck := hc k hlt
      have hn : b < w.heap.size := hr.old (by omega) b off rfl
      clear hc hr' hB
      have hlt' : (k : Int) < (len : Int) := by omega
      have hk8 : (k : Int) < 8 := by omega
      obtain ⟨z, HZ⟩ : ∃ z, Hid (zb zs k = z) := ⟨_, rfl⟩
      rw [show zs.getD k 0 = zb zs k from rfl, HZ.out] at hck
      have st : Hid ((frP id len zs k).setIfInBounds (2 + k) (.int .u8 z) = frP id len zs (k + 1)) := by
        have := frP_step id len zs k (by omega)
        rw [HZ.out] at this
        exact this
      obtain ⟨v0, hv0⟩ : ∃ v, (frP id len zs k)[2 + k]? = some v := frP_has id len zs k (by omega)
      generalize frP id len zs k = C at *
      go_wp2_with fail
      exact ⟨⟨k + 1, by omega, by go_num, by rw [st.out]⟩, by simp [intOf]; omega⟩
    · obtain rfl : k = len := by omega
      rw [HE.out]
      clear HE
      go_wp2_with fail
      refine bodyPost_ret (v := FrR.tup ⟨id, k, zb zs 0, zb zs 1, zb zs 2, zb zs 3, zb zs 4, zb zs 5, zb zs 6, zb zs 7, false, 0⟩) ?_ rfl ⟨rfl, Below.al (Below.al (Below.refl _ _) _) _⟩
      simp [results, Try.results24, go_sem]
#print axioms refMake_any
end Go.Proofs.Ytjfjfohabpjemaa
