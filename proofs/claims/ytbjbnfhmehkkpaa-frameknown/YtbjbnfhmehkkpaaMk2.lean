/-
  The walks of the document's Make, and of Data, the program's and the document's.
-/
import Derived.Test.YtbjbnfhmehkkpaaMk
namespace Go.Proofs.Ytbjbnfhmehkkpaa
open Go.RowKit

/-- A frame's cells, the bytes that were put in so far. -/
abbrev frP (id n : Int) (zs : List Int) (k : Nat) : Array Value := frC id n (if 0 < k then zb zs 0 else 0) (if 1 < k then zb zs 1 else 0) (if 2 < k then zb zs 2 else 0) (if 3 < k then zb zs 3 else 0) (if 4 < k then zb zs 4 else 0) (if 5 < k then zb zs 5 else 0) (if 6 < k then zb zs 6 else 0) (if 7 < k then zb zs 7 else 0) false

theorem frP_step (id n : Int) (zs : List Int) (k : Nat) (h : k < 8) : (frP id n zs k).setIfInBounds (2 + k) (.int .u8 (zb zs k)) = frP id n zs (k + 1) := by
  have h9 : k = 0 ∨ k = 1 ∨ k = 2 ∨ k = 3 ∨ k = 4 ∨ k = 5 ∨ k = 6 ∨ k = 7 := by omega
  rcases h9 with rfl | rfl | rfl | rfl | rfl | rfl | rfl | rfl <;> rfl
theorem frP_has (id n : Int) (zs : List Int) (k : Nat) (h : k < 8) : ∃ v, (frP id n zs k)[2 + k]? = some v := ⟨_, Array.getElem?_eq_getElem (by show 2 + k < 11; omega)⟩
theorem frP_end (id : Int) (zs : List Int) (len : Nat) (hl : zs.length = len) : frP id len zs len = frC id len (zb zs 0) (zb zs 1) (zb zs 2) (zb zs 3) (zb zs 4) (zb zs 5) (zb zs 6) (zb zs 7) false := by
  have e : ∀ i, (if i < len then zb zs i else 0) = zb zs i := by
    intro i
    by_cases h : i < len
    · rw [if_pos h]
    · rw [if_neg h]; simp [zb, List.getD_eq_getElem?_getD, hl, h]
  unfold frP
  simp only [e]

set_option maxHeartbeats 2000000 in
set_option maxRecDepth 100000 in
theorem refMake_any (id : Int) (a : Option Addr) (len cap : Nat) (zs : List Int) (w : World) (hr : Row w a len zs) :
    Calls Try.prog 8 #[.int .u16 id, .slice a len cap] w fun e w' => e = .returned (mkR id zs).tup ∧ Below w.heap.size w w' := by
  have hs := hr.size
  by_cases h1 : 2047 < id
  · rw [mkR_bad id zs (.inl h1)]
    go_enter Try.func8, Try.ntmps8
    go_wp2_with fail
    exact bodyPost_ret (v := (noFr 2).tup) (by simp [results, Try.results8, go_sem, noFr]) rfl ⟨rfl, Below.al (Below.refl _ _) _⟩
  by_cases h2 : (8 : Int) < (len : Int)
  · rw [mkR_bad id zs (.inr (by omega))]
    go_enter Try.func8, Try.ntmps8
    go_wp2_with fail
    exact bodyPost_ret (v := (noFr 2).tup) (by simp [results, Try.results8, go_sem, noFr]) rfl ⟨rfl, Below.al (Below.refl _ _) _⟩
  rw [mkR_good id zs (by omega) (by omega), hs]
  have HS : Hid (zs.length = len) := hs
  have HE : Hid (frP id len zs len = frC id len (zb zs 0) (zb zs 1) (zb zs 2) (zb zs 3) (zb zs 4) (zb zs 5) (zb zs 6) (zb zs 7) false) := frP_end id zs len hs
  clear hs
  go_enter Try.func8, Try.ntmps8
  go_wp2_with fail
  go_loopw [7] (fun i wr => ∃ k : Nat, k ≤ len ∧ i = .int .i64 (k : Int) ∧ wr = (w.alloc (.cells (frC 0 0 0 0 0 0 0 0 0 0 false) 26)).alloc (.cells (frP id len zs k) 26)) (fun i _ => len - (intOf i).toNat)
  case atStart => exact ⟨0, Nat.zero_le _, rfl, rfl⟩
  case round =>
    obtain ⟨k, hk, rfl, rfl⟩ := hrel
    have hB : Below w.heap.size w ((w.alloc (.cells (frC 0 0 0 0 0 0 0 0 0 0 false) 26)).alloc (.cells (frP id len zs k) 26)) := Below.al (Below.al (Below.refl _ _) _) _
    by_cases hlt : k < len
    · have hr' := hr.next hB
      obtain ⟨b, off, rfl, hc⟩ := hr'.at_ (by omega)
      have hck := hc k hlt
      have hn : b < w.heap.size := hr.old (by omega) b off rfl
      clear hc hr' hB
      have hlt' : (k : Int) < (len : Int) := by omega
      have hk8 : (k : Int) < 8 := by omega
      obtain ⟨z, HZ⟩ : ∃ z, Hid (zb zs k = z) := ⟨_, rfl⟩
      rw [show zs.getD k 0 = zb zs k from rfl, HZ.out] at hck
      have st : Hid ((frP id len zs k).setIfInBounds (2 + k) (.int .u8 z) = frP id len zs (k + 1)) := by
        have := frP_step id len zs k (by omega)
        rw [HZ.out] at this
        exact this
      obtain ⟨v0, hv0⟩ : ∃ v, (frP id len zs k)[2 + k]? = some v := frP_has id len zs k (by omega)
      generalize frP id len zs k = C at *
      go_wp2_with fail
      exact ⟨⟨k + 1, by omega, by go_num, by rw [st.out]⟩, by simp [intOf]; omega⟩
    · obtain rfl : k = len := by omega
      rw [HE.out]
      clear HE
      go_wp2_with fail
      refine bodyPost_ret (v := FrR.tup ⟨id, k, zb zs 0, zb zs 1, zb zs 2, zb zs 3, zb zs 4, zb zs 5, zb zs 6, zb zs 7, false, 0⟩) ?_ rfl ⟨rfl, Below.al (Below.al (Below.refl _ _) _) _⟩
      simp [results, Try.results8, go_sem]
#print axioms refMake_any

/-- A right frame's bytes. -/
def datL (id n : Int) (ds : List Int) (r : Bool) : List Int := if rightB id n ds r then carL n ds r else []

theorem rightB_n (id n : Int) (ds : List Int) (r : Bool) (h : rightB id n ds r = true) : id ≤ 2047 ∧ 0 ≤ n ∧ n ≤ 8 := by
  simp [rightB] at h
  omega

/-- A frame in a box of its own. -/
theorem boxed (w : World) (id n d0 d1 d2 d3 d4 d5 d6 d7 : Int) (r : Bool) : Below w.heap.size w (w.alloc (.cells (frC id n d0 d1 d2 d3 d4 d5 d6 d7 r) 26)) ∧ (w.alloc (.cells (frC id n d0 d1 d2 d3 d4 d5 d6 d7 r) 26)).cell? ⟨w.heap.size, 0, none⟩ = some (.int .u16 id) ∧ (w.alloc (.cells (frC id n d0 d1 d2 d3 d4 d5 d6 d7 r) 26)).cell? ⟨w.heap.size, 1, none⟩ = some (.int .i64 n) ∧ (w.alloc (.cells (frC id n d0 d1 d2 d3 d4 d5 d6 d7 r) 26)).cell? ⟨w.heap.size, 2, none⟩ = some (.int .u8 d0) ∧ (w.alloc (.cells (frC id n d0 d1 d2 d3 d4 d5 d6 d7 r) 26)).cell? ⟨w.heap.size, 3, none⟩ = some (.int .u8 d1) ∧ (w.alloc (.cells (frC id n d0 d1 d2 d3 d4 d5 d6 d7 r) 26)).cell? ⟨w.heap.size, 4, none⟩ = some (.int .u8 d2) ∧ (w.alloc (.cells (frC id n d0 d1 d2 d3 d4 d5 d6 d7 r) 26)).cell? ⟨w.heap.size, 5, none⟩ = some (.int .u8 d3) ∧ (w.alloc (.cells (frC id n d0 d1 d2 d3 d4 d5 d6 d7 r) 26)).cell? ⟨w.heap.size, 6, none⟩ = some (.int .u8 d4) ∧ (w.alloc (.cells (frC id n d0 d1 d2 d3 d4 d5 d6 d7 r) 26)).cell? ⟨w.heap.size, 7, none⟩ = some (.int .u8 d5) ∧ (w.alloc (.cells (frC id n d0 d1 d2 d3 d4 d5 d6 d7 r) 26)).cell? ⟨w.heap.size, 8, none⟩ = some (.int .u8 d6) ∧ (w.alloc (.cells (frC id n d0 d1 d2 d3 d4 d5 d6 d7 r) 26)).cell? ⟨w.heap.size, 9, none⟩ = some (.int .u8 d7) ∧ (w.alloc (.cells (frC id n d0 d1 d2 d3 d4 d5 d6 d7 r) 26)).cell? ⟨w.heap.size, 10, none⟩ = some (.bool r) := by
  refine ⟨Below.al (Below.refl _ _) _, ?_⟩
  simp [go_sem]

set_option maxHeartbeats 2000000 in
set_option maxRecDepth 100000 in
theorem data_any (id n d0 d1 d2 d3 d4 d5 d6 d7 : Int) (r : Bool) (w : World) (ho : Oct [d0, d1, d2, d3, d4, d5, d6, d7]) :
    Calls Try.prog 14 #[frV id n d0 d1 d2 d3 d4 d5 d6 d7 r] w fun e w' => ∃ a len cap, e = .returned (.slice a len cap) ∧ len ≤ 8 ∧ len ≤ cap ∧ Row w' a len (datL id n [d0, d1, d2, d3, d4, d5, d6, d7] r) ∧ (∀ b off, a = some ⟨b, off, none⟩ → w.heap.size ≤ b ∧ off = 0 ∧ ∀ i, i < len → w'.frozen? ⟨b, i, none⟩ = false) ∧ Below w.heap.size w w' := by
  have hR := fun w => right_any id n d0 d1 d2 d3 d4 d5 d6 d7 r w ho
  cases hq : rightB id n [d0, d1, d2, d3, d4, d5, d6, d7] r with
  | false =>
    have e : datL id n [d0, d1, d2, d3, d4, d5, d6, d7] r = [] := by simp [datL, hq]
    rw [e]
    rw [hq] at hR
    clear hq
    go_enter Try.func14, Try.ntmps14
    go_wp2_with fail
    refine (hR _).mono ?_
    rintro e w1 ⟨rfl, hb1⟩
    go_wp2_with fail
    go_ret
    exact ⟨none, 0, 0, rfl, by decide, by decide, row_nil _, (fun b off h => by cases h), Below.andThen (Below.al (Below.refl _ _) _) hb1⟩
  | true =>
    have e : datL id n [d0, d1, d2, d3, d4, d5, d6, d7] r = carL n [d0, d1, d2, d3, d4, d5, d6, d7] r := by simp [datL, hq]
    rw [e]
    obtain ⟨_, h0, h8⟩ := rightB_n _ _ _ _ hq
    rw [hq] at hR
    clear hq
    have hC := fun w => carried_any id n d0 d1 d2 d3 d4 d5 d6 d7 r w h0 h8 ho
    go_enter Try.func14, Try.ntmps14
    go_wp2_with fail
    refine (hR _).mono ?_
    rintro e w1 ⟨rfl, hb1⟩
    obtain ⟨B1, c0, c1, c2, c3, c4, c5, c6, c7, c8, c9, c10⟩ := hold_next (boxed w id n d0 d1 d2 d3 d4 d5 d6 d7 r) hb1
    clear hb1
    go_wp2_with fail
    refine (hC _).mono ?_
    rintro e w2 ⟨a2, l2, k2, rfl, hl2, hr2, hb2⟩
    have B2 : Below w.heap.size w w2 := Below.andThen B1 hb2
    clear c0 c1 c2 c3 c4 c5 c6 c7 c8 c9 c10 hb2 B1
    go_wp2_with (at_builtin; refine wpList_append_nil rfl _ _ rfl rfl _ _ _ _ rfl hr2 (by omega) ?_)
    intro a3 k3 w3 h1 h2 h3 h4 h5
    go_wp2_with fail
    go_ret
    exact ⟨a3, l2, k3, rfl, hl2, h1, h3, fun b off e => ⟨by have := (h4 b off e).1; have := B2.size; omega, (h4 b off e).2⟩, Below.andThen B2 h5⟩
#print axioms data_any
end Go.Proofs.Ytbjbnfhmehkkpaa
