/-
  The walk of FrameKnown, over the contracts of the three statements that it calls.
-/
import Derived.Test.YtbjbnfhmehkkpaaDt
import Derived.Laws.OwnMore
namespace Go.Proofs.Ytbjbnfhmehkkpaa
open Go.RowKit

/-- What is known of two boxed frames stays where nothing old turns. -/
theorem hold2_next {w0 w w' : World} {A B : Nat} {i n d0 d1 d2 d3 d4 d5 d6 d7 : Int} {r : Bool} {j m e0 e1 e2 e3 e4 e5 e6 e7 : Int} {s : Bool}
    (h : Below w0.heap.size w0 w ∧ w.cell? ⟨A, 0, none⟩ = some (.int .u16 i) ∧ w.cell? ⟨A, 1, none⟩ = some (.int .i64 n) ∧ w.cell? ⟨A, 2, none⟩ = some (.int .u8 d0) ∧ w.cell? ⟨A, 3, none⟩ = some (.int .u8 d1) ∧ w.cell? ⟨A, 4, none⟩ = some (.int .u8 d2) ∧ w.cell? ⟨A, 5, none⟩ = some (.int .u8 d3) ∧ w.cell? ⟨A, 6, none⟩ = some (.int .u8 d4) ∧ w.cell? ⟨A, 7, none⟩ = some (.int .u8 d5) ∧ w.cell? ⟨A, 8, none⟩ = some (.int .u8 d6) ∧ w.cell? ⟨A, 9, none⟩ = some (.int .u8 d7) ∧ w.cell? ⟨A, 10, none⟩ = some (.bool r) ∧ w.cell? ⟨B, 0, none⟩ = some (.int .u16 j) ∧ w.cell? ⟨B, 1, none⟩ = some (.int .i64 m) ∧ w.cell? ⟨B, 2, none⟩ = some (.int .u8 e0) ∧ w.cell? ⟨B, 3, none⟩ = some (.int .u8 e1) ∧ w.cell? ⟨B, 4, none⟩ = some (.int .u8 e2) ∧ w.cell? ⟨B, 5, none⟩ = some (.int .u8 e3) ∧ w.cell? ⟨B, 6, none⟩ = some (.int .u8 e4) ∧ w.cell? ⟨B, 7, none⟩ = some (.int .u8 e5) ∧ w.cell? ⟨B, 8, none⟩ = some (.int .u8 e6) ∧ w.cell? ⟨B, 9, none⟩ = some (.int .u8 e7) ∧ w.cell? ⟨B, 10, none⟩ = some (.bool s)) (hb : Below w.heap.size w w') : Below w0.heap.size w0 w' ∧ w'.cell? ⟨A, 0, none⟩ = some (.int .u16 i) ∧ w'.cell? ⟨A, 1, none⟩ = some (.int .i64 n) ∧ w'.cell? ⟨A, 2, none⟩ = some (.int .u8 d0) ∧ w'.cell? ⟨A, 3, none⟩ = some (.int .u8 d1) ∧ w'.cell? ⟨A, 4, none⟩ = some (.int .u8 d2) ∧ w'.cell? ⟨A, 5, none⟩ = some (.int .u8 d3) ∧ w'.cell? ⟨A, 6, none⟩ = some (.int .u8 d4) ∧ w'.cell? ⟨A, 7, none⟩ = some (.int .u8 d5) ∧ w'.cell? ⟨A, 8, none⟩ = some (.int .u8 d6) ∧ w'.cell? ⟨A, 9, none⟩ = some (.int .u8 d7) ∧ w'.cell? ⟨A, 10, none⟩ = some (.bool r) ∧ w'.cell? ⟨B, 0, none⟩ = some (.int .u16 j) ∧ w'.cell? ⟨B, 1, none⟩ = some (.int .i64 m) ∧ w'.cell? ⟨B, 2, none⟩ = some (.int .u8 e0) ∧ w'.cell? ⟨B, 3, none⟩ = some (.int .u8 e1) ∧ w'.cell? ⟨B, 4, none⟩ = some (.int .u8 e2) ∧ w'.cell? ⟨B, 5, none⟩ = some (.int .u8 e3) ∧ w'.cell? ⟨B, 6, none⟩ = some (.int .u8 e4) ∧ w'.cell? ⟨B, 7, none⟩ = some (.int .u8 e5) ∧ w'.cell? ⟨B, 8, none⟩ = some (.int .u8 e6) ∧ w'.cell? ⟨B, 9, none⟩ = some (.int .u8 e7) ∧ w'.cell? ⟨B, 10, none⟩ = some (.bool s) := by
  obtain ⟨h0, a0, a1, a2, a3, a4, a5, a6, a7, a8, a9, a10, b0, b1, b2, b3, b4, b5, b6, b7, b8, b9, b10⟩ := h
  have hA : A < w.heap.size := block_lt_of_cell a0
  have hB : B < w.heap.size := block_lt_of_cell b0
  exact ⟨Below.andThen h0 hb, (hb.cell (p := ⟨A, 0, none⟩) hA).trans a0, (hb.cell (p := ⟨A, 1, none⟩) hA).trans a1, (hb.cell (p := ⟨A, 2, none⟩) hA).trans a2, (hb.cell (p := ⟨A, 3, none⟩) hA).trans a3, (hb.cell (p := ⟨A, 4, none⟩) hA).trans a4, (hb.cell (p := ⟨A, 5, none⟩) hA).trans a5, (hb.cell (p := ⟨A, 6, none⟩) hA).trans a6, (hb.cell (p := ⟨A, 7, none⟩) hA).trans a7, (hb.cell (p := ⟨A, 8, none⟩) hA).trans a8, (hb.cell (p := ⟨A, 9, none⟩) hA).trans a9, (hb.cell (p := ⟨A, 10, none⟩) hA).trans a10, (hb.cell (p := ⟨B, 0, none⟩) hB).trans b0, (hb.cell (p := ⟨B, 1, none⟩) hB).trans b1, (hb.cell (p := ⟨B, 2, none⟩) hB).trans b2, (hb.cell (p := ⟨B, 3, none⟩) hB).trans b3, (hb.cell (p := ⟨B, 4, none⟩) hB).trans b4, (hb.cell (p := ⟨B, 5, none⟩) hB).trans b5, (hb.cell (p := ⟨B, 6, none⟩) hB).trans b6, (hb.cell (p := ⟨B, 7, none⟩) hB).trans b7, (hb.cell (p := ⟨B, 8, none⟩) hB).trans b8, (hb.cell (p := ⟨B, 9, none⟩) hB).trans b9, (hb.cell (p := ⟨B, 10, none⟩) hB).trans b10⟩

theorem boxed2 (w : World) (i n d0 d1 d2 d3 d4 d5 d6 d7 : Int) (r : Bool) (j m e0 e1 e2 e3 e4 e5 e6 e7 : Int) (s : Bool) :
    Below w.heap.size w ((w.alloc (.cells (frC i n d0 d1 d2 d3 d4 d5 d6 d7 r) 26)).alloc (.cells (frC j m e0 e1 e2 e3 e4 e5 e6 e7 s) 26)) ∧ ((w.alloc (.cells (frC i n d0 d1 d2 d3 d4 d5 d6 d7 r) 26)).alloc (.cells (frC j m e0 e1 e2 e3 e4 e5 e6 e7 s) 26)).cell? ⟨w.heap.size, 0, none⟩ = some (.int .u16 i) ∧ ((w.alloc (.cells (frC i n d0 d1 d2 d3 d4 d5 d6 d7 r) 26)).alloc (.cells (frC j m e0 e1 e2 e3 e4 e5 e6 e7 s) 26)).cell? ⟨w.heap.size, 1, none⟩ = some (.int .i64 n) ∧ ((w.alloc (.cells (frC i n d0 d1 d2 d3 d4 d5 d6 d7 r) 26)).alloc (.cells (frC j m e0 e1 e2 e3 e4 e5 e6 e7 s) 26)).cell? ⟨w.heap.size, 2, none⟩ = some (.int .u8 d0) ∧ ((w.alloc (.cells (frC i n d0 d1 d2 d3 d4 d5 d6 d7 r) 26)).alloc (.cells (frC j m e0 e1 e2 e3 e4 e5 e6 e7 s) 26)).cell? ⟨w.heap.size, 3, none⟩ = some (.int .u8 d1) ∧ ((w.alloc (.cells (frC i n d0 d1 d2 d3 d4 d5 d6 d7 r) 26)).alloc (.cells (frC j m e0 e1 e2 e3 e4 e5 e6 e7 s) 26)).cell? ⟨w.heap.size, 4, none⟩ = some (.int .u8 d2) ∧ ((w.alloc (.cells (frC i n d0 d1 d2 d3 d4 d5 d6 d7 r) 26)).alloc (.cells (frC j m e0 e1 e2 e3 e4 e5 e6 e7 s) 26)).cell? ⟨w.heap.size, 5, none⟩ = some (.int .u8 d3) ∧ ((w.alloc (.cells (frC i n d0 d1 d2 d3 d4 d5 d6 d7 r) 26)).alloc (.cells (frC j m e0 e1 e2 e3 e4 e5 e6 e7 s) 26)).cell? ⟨w.heap.size, 6, none⟩ = some (.int .u8 d4) ∧ ((w.alloc (.cells (frC i n d0 d1 d2 d3 d4 d5 d6 d7 r) 26)).alloc (.cells (frC j m e0 e1 e2 e3 e4 e5 e6 e7 s) 26)).cell? ⟨w.heap.size, 7, none⟩ = some (.int .u8 d5) ∧ ((w.alloc (.cells (frC i n d0 d1 d2 d3 d4 d5 d6 d7 r) 26)).alloc (.cells (frC j m e0 e1 e2 e3 e4 e5 e6 e7 s) 26)).cell? ⟨w.heap.size, 8, none⟩ = some (.int .u8 d6) ∧ ((w.alloc (.cells (frC i n d0 d1 d2 d3 d4 d5 d6 d7 r) 26)).alloc (.cells (frC j m e0 e1 e2 e3 e4 e5 e6 e7 s) 26)).cell? ⟨w.heap.size, 9, none⟩ = some (.int .u8 d7) ∧ ((w.alloc (.cells (frC i n d0 d1 d2 d3 d4 d5 d6 d7 r) 26)).alloc (.cells (frC j m e0 e1 e2 e3 e4 e5 e6 e7 s) 26)).cell? ⟨w.heap.size, 10, none⟩ = some (.bool r) ∧ ((w.alloc (.cells (frC i n d0 d1 d2 d3 d4 d5 d6 d7 r) 26)).alloc (.cells (frC j m e0 e1 e2 e3 e4 e5 e6 e7 s) 26)).cell? ⟨w.heap.size + 1, 0, none⟩ = some (.int .u16 j) ∧ ((w.alloc (.cells (frC i n d0 d1 d2 d3 d4 d5 d6 d7 r) 26)).alloc (.cells (frC j m e0 e1 e2 e3 e4 e5 e6 e7 s) 26)).cell? ⟨w.heap.size + 1, 1, none⟩ = some (.int .i64 m) ∧ ((w.alloc (.cells (frC i n d0 d1 d2 d3 d4 d5 d6 d7 r) 26)).alloc (.cells (frC j m e0 e1 e2 e3 e4 e5 e6 e7 s) 26)).cell? ⟨w.heap.size + 1, 2, none⟩ = some (.int .u8 e0) ∧ ((w.alloc (.cells (frC i n d0 d1 d2 d3 d4 d5 d6 d7 r) 26)).alloc (.cells (frC j m e0 e1 e2 e3 e4 e5 e6 e7 s) 26)).cell? ⟨w.heap.size + 1, 3, none⟩ = some (.int .u8 e1) ∧ ((w.alloc (.cells (frC i n d0 d1 d2 d3 d4 d5 d6 d7 r) 26)).alloc (.cells (frC j m e0 e1 e2 e3 e4 e5 e6 e7 s) 26)).cell? ⟨w.heap.size + 1, 4, none⟩ = some (.int .u8 e2) ∧ ((w.alloc (.cells (frC i n d0 d1 d2 d3 d4 d5 d6 d7 r) 26)).alloc (.cells (frC j m e0 e1 e2 e3 e4 e5 e6 e7 s) 26)).cell? ⟨w.heap.size + 1, 5, none⟩ = some (.int .u8 e3) ∧ ((w.alloc (.cells (frC i n d0 d1 d2 d3 d4 d5 d6 d7 r) 26)).alloc (.cells (frC j m e0 e1 e2 e3 e4 e5 e6 e7 s) 26)).cell? ⟨w.heap.size + 1, 6, none⟩ = some (.int .u8 e4) ∧ ((w.alloc (.cells (frC i n d0 d1 d2 d3 d4 d5 d6 d7 r) 26)).alloc (.cells (frC j m e0 e1 e2 e3 e4 e5 e6 e7 s) 26)).cell? ⟨w.heap.size + 1, 7, none⟩ = some (.int .u8 e5) ∧ ((w.alloc (.cells (frC i n d0 d1 d2 d3 d4 d5 d6 d7 r) 26)).alloc (.cells (frC j m e0 e1 e2 e3 e4 e5 e6 e7 s) 26)).cell? ⟨w.heap.size + 1, 8, none⟩ = some (.int .u8 e6) ∧ ((w.alloc (.cells (frC i n d0 d1 d2 d3 d4 d5 d6 d7 r) 26)).alloc (.cells (frC j m e0 e1 e2 e3 e4 e5 e6 e7 s) 26)).cell? ⟨w.heap.size + 1, 9, none⟩ = some (.int .u8 e7) ∧ ((w.alloc (.cells (frC i n d0 d1 d2 d3 d4 d5 d6 d7 r) 26)).alloc (.cells (frC j m e0 e1 e2 e3 e4 e5 e6 e7 s) 26)).cell? ⟨w.heap.size + 1, 10, none⟩ = some (.bool s) := by
  refine ⟨Below.al (Below.al (Below.refl _ _) _) _, ?_⟩
  simp [go_sem]

/-- The texts that it reads. -/
def knownL : List (List Int) := [[49, 56, 49, 35, 48, 49, 48, 50, 70, 70], [48, 48, 53, 35, 82, 52], [48, 48, 48, 35], [55, 70, 70, 35, 48, 48, 48, 48, 48, 48, 48, 48, 48, 48, 48, 48, 48, 48, 48, 48], [55, 70, 70, 35, 82, 56], [55, 70, 70, 35, 82, 57], [55, 70, 70, 35, 82], [56, 48, 48, 35], [49, 56, 49, 35, 48, 49, 48, 50, 70], [49, 56, 49, 35, 114, 52], [53, 35], [49, 56, 49], [49, 56, 49, 35, 48, 49, 48, 50, 102, 102], [49, 56, 49, 35, 82, 52, 48], [49, 56, 49, 35, 35], [49, 56, 49, 35, 48, 48, 49, 49, 50, 50, 51, 51, 52, 52, 53, 53, 54, 54, 55, 55, 56], [49, 56, 49, 35, 48, 48, 49, 49, 50, 50, 51, 51, 52, 52, 53, 53, 54, 54, 55, 55, 56, 56], [35], [], [49, 56, 71, 35], [49, 56, 49, 35, 48, 71], [255, 56, 49, 35, 48, 48], [49, 56, 49, 35, 82, 52, 35]]
theorem knownL_oct : ∀ zs ∈ knownL, Oct zs := by
  have h : (knownL.all fun zs => zs.all fun n => decide (0 ≤ n) && decide (n < 256)) = true := by kernel_rfl
  intro zs hz n hn
  have h1 := List.all_eq_true.1 h zs hz
  have h2 := List.all_eq_true.1 h1 n hn
  simpa using h2

set_option linter.unusedSimpArgs false in
set_option maxHeartbeats 16000000 in
set_option maxRecDepth 100000 in
theorem frameKnown_any
    (hRd : ∀ (zs : List Int) (w : World), Oct zs → Calls Try.prog 4 #[.string (strOfNums zs)] w fun e w' => e = .returned (.bool true) ∧ Below w.heap.size w w')
    (hBk : ∀ (i n d0 d1 d2 d3 d4 d5 d6 d7 : Int) (r : Bool) (j m e0 e1 e2 e3 e4 e5 e6 e7 : Int) (s : Bool) (k o g0 g1 g2 g3 g4 g5 g6 g7 : Int) (t : Bool) (zs : List Int) (w : World), 0 ≤ i → Oct [d0, d1, d2, d3, d4, d5, d6, d7] → Oct zs →
      Calls Try.prog 5 #[frV i n d0 d1 d2 d3 d4 d5 d6 d7 r, frV j m e0 e1 e2 e3 e4 e5 e6 e7 s, frV k o g0 g1 g2 g3 g4 g5 g6 g7 t, .string (strOfNums zs)] w fun e w' => e = .returned (.bool true) ∧ Below w.heap.size w w')
    (hMk : ∀ (id n : Int) (da : Option Addr) (dl dc : Nat) (zs : List Int) (fi fn d0 d1 d2 d3 d4 d5 d6 d7 : Int) (fr : Bool) (w : World), Row w da dl zs → 0 ≤ id → 0 ≤ fi → Oct [d0, d1, d2, d3, d4, d5, d6, d7] →
      Calls Try.prog 3 #[.int .u16 id, .slice da dl dc, .int .i64 n, frV fi fn d0 d1 d2 d3 d4 d5 d6 d7 fr] w fun e w' => e = .returned (.bool true) ∧ Below w.heap.size w w')
    (hWk : ∀ (w : World), Calls Try.prog 18 #[] w fun e w' => e = .returned (.bool true) ∧ Below w.heap.size w w')
    (w : World) : Calls Try.prog 6 #[] w fun e w' => e = .returned (.bool true) ∧ Below w.heap.size w w' := by
  have oz : Oct [0, 0, 0, 0, 0, 0, 0, 0] := fun n hn => by simp at hn; omega
  have HR : Hid _ := hRd
  have HB : Hid _ := hBk
  have HM : Hid _ := hMk
  have HW : Hid _ := hWk
  clear hRd hBk hMk hWk
  go_enter Try.func6, Try.ntmps6
  go_wp2_with fail
  generalize HG : w.alloc _ = V
  have HV : Hid (w.alloc (.cells (knownL.map fun zs => Value.string (strOfNums zs)).toArray 9) = V) := by
    show _ = _
    rw [← HG]
    exact congrArg (fun C => w.alloc (.cells C 9)) (by kernel_rfl)
  clear HG
  have hVs : Hid (V.heap.size = w.heap.size + 1) := by show _ = _; rw [← HV.out]; simp
  have hVx : Hid (∀ q : Nat, q < 23 → ∃ zs, Oct zs ∧ V.cell? ⟨w.heap.size, q, none⟩ = some (.string (strOfNums zs))) := fun q hq => by
    rw [← HV.out]
    have hl : q < knownL.length := hq
    refine ⟨knownL[q], knownL_oct _ (List.getElem_mem hl), ?_⟩
    rw [World.cell?_alloc_new]
    simp [hl]
  have BV : Hid (Below w.heap.size w V) := by show Below _ _ _; rw [← HV.out]; exact Below.al (Below.refl _ _) _
  clear HV
  go_loopw [12] (fun i wr => ∃ q : Nat, q ≤ 23 ∧ i = .int .i64 (q : Int) ∧ Below V.heap.size V wr) (fun i _ => 23 - (intOf i).toNat)
  case atStart => exact ⟨0, by decide, rfl, Below.refl _ _⟩
  case round =>
    obtain ⟨q, hq, rfl, hb0⟩ := hrel
    have hb : Hid (Below V.heap.size V wr) := hb0
    clear hb0
    by_cases hlt : q < 23
    · obtain ⟨zs, ho, hc⟩ := hVx.out q hlt
      replace hc := (hb.out.cell (p := ⟨w.heap.size, _, none⟩) (by rw [hVs.out]; exact Nat.lt_succ_self _)).trans hc
      have hlt' : (q : Int) < 23 := by omega
      go_wp2_with fail
      refine (HR.out zs _ ho).mono ?_
      rintro e w1 ⟨rfl, hb1⟩
      go_wp2_with fail
      refine (HB.out 0 0 0 0 0 0 0 0 0 0 false 1 0 0 0 0 0 0 0 0 0 false 0 0 0 0 0 0 0 0 0 0 true zs _ (by decide) oz ho).mono ?_
      rintro e w2 ⟨rfl, hb2⟩
      go_wp2_with fail
      exact ⟨⟨q + 1, by omega, by go_num, Below.andThen (Below.andThen hb.out hb1) hb2⟩, by simp [intOf]; omega⟩
    · obtain rfl : q = 23 := by omega
      obtain ⟨w1, EW⟩ : ∃ x, x = wr := ⟨_, rfl⟩
      subst EW
      have BR : Hid (Below w.heap.size w w1) := Below.andThen BV.out hb.out
      clear BV hb hVx hVs
      go_wp2_with fail
      obtain ⟨U, HU⟩ : ∃ U, Hid (w1.alloc (.cells #[.int .u16 0, .int .u16 1, .int .u16 2046, .int .u16 2047, .int .u16 2048, .int .u16 65535] 22) = U) := ⟨_, rfl⟩
      have hUs : Hid (U.heap.size = w1.heap.size + 1) := by show _ = _; rw [← HU.out]; simp
      have hUx : Hid (∀ q : Nat, q < 6 → ∃ id : Int, 0 ≤ id ∧ U.cell? ⟨w1.heap.size, q, none⟩ = some (.int .u16 id)) := fun q hq => by
        rw [← HU.out]
        have h9 : q = 0 ∨ q = 1 ∨ q = 2 ∨ q = 3 ∨ q = 4 ∨ q = 5 := by omega
        rcases h9 with rfl | rfl | rfl | rfl | rfl | rfl
        · exact ⟨0, by decide, by simp [go_sem]⟩
        · exact ⟨1, by decide, by simp [go_sem]⟩
        · exact ⟨2046, by decide, by simp [go_sem]⟩
        · exact ⟨2047, by decide, by simp [go_sem]⟩
        · exact ⟨2048, by decide, by simp [go_sem]⟩
        · exact ⟨65535, by decide, by simp [go_sem]⟩
      have BU : Hid (Below w.heap.size w U) := by show Below _ _ _; rw [← HU.out]; exact Below.al BR.out _
      rw [HU.out]
      clear HU BR
      go_loopw [30] (fun i ws => ∃ q : Nat, q ≤ 6 ∧ i = .int .i64 (q : Int) ∧ Below U.heap.size U ws) (fun i _ => 6 - (intOf i).toNat)
      case atStart => exact ⟨0, by decide, rfl, Below.refl _ _⟩
      case round =>
        obtain ⟨q, hq, rfl, hb0⟩ := hrel
        have hb : Hid (Below U.heap.size U wr) := hb0
        clear hb0
        by_cases hlt : q < 6
        · obtain ⟨id, hid, hc⟩ := hUx.out q hlt
          replace hc := (hb.out.cell (p := ⟨w1.heap.size, _, none⟩) (by rw [hUs.out]; exact Nat.lt_succ_self _)).trans hc
          have hlt' : (q : Int) < 6 := by omega
          go_wp2_with fail
          clear hc
          go_loopw [5] (fun i wt => ∃ k : Nat, k ≤ 11 ∧ i = .int .i64 ((k : Int) - 1) ∧ Below U.heap.size U wt) (fun i _ => 11 - (intOf i + 1).toNat)
          case atStart => exact ⟨0, by decide, rfl, hb.out⟩
          case round =>
            obtain ⟨k, hk, rfl, hb0⟩ := hrel
            have hb : Hid (Below U.heap.size U wr) := hb0
            clear hb0
            by_cases hlt : k < 11
            · have hn : (k : Int) - 1 ≤ 9 := by omega
              obtain ⟨n, HN⟩ : ∃ n : Int, Hid ((k : Int) - 1 = n) := ⟨_, rfl⟩
              have hn1 : -1 ≤ n := by have := HN.out; omega
              rw [HN.out] at hn ⊢
              obtain ⟨i0, hi, hz0, hz1, hz2⟩ := info_parts info8
              go_wp2_with fail
              obtain ⟨wt, EW⟩ : ∃ x, x = wr := ⟨_, rfl⟩
              subst EW
              go_loopw [6, 7] (fun v i wu => ∃ (j : Nat) (bs : List Int), ((j : Int) ≤ n ∨ j = 0) ∧ i = .int .i64 (j : Int) ∧ bs.length = j ∧ Oct bs ∧ Below wt.heap.size wt wu ∧ wu.ownsRow wt.heap.size 5 1 v j (bs.map (Value.int .u8))) (fun _ i _ => 10 - (intOf i).toNat)
              case atStart => exact ⟨0, [], .inr rfl, rfl, rfl, oct_nil, Below.refl _ _, World.ownsRow_nil _ _ _ _⟩
              case round =>
                obtain ⟨j, bs, hj, rfl, hbl, hob, hbu, hown⟩ := hrel
                by_cases hjn : (j : Int) < n
                · have OWN : Hid (wr.ownsRow wt.heap.size 5 1 u6 j (bs.map (Value.int .u8))) := hown
                  clear hown
                  go_wp2_with (at_builtin; refine wpList_append_own _ rfl _ _ 23 rfl wt.heap.size 5 i0 (.int .u8 0) 1 1 Try.underlying23 hi hz0 hz1 hz2 rfl (by decide) _ _ _ rfl (OWN.out.alloc _) ⟨wr.heap.size, 0, none⟩ 1 1 [.int .u8 (((j : Int) + 250) % 256)] rfl rfl ?c1 ?c2 ?c3 ?c4 ?c5 ?_)
                  case c1 =>
                    intro j u hj
                    match j, hj with
                    | 0, hj => simp at hj; subst hj; simp [Addr.add]
                  case c2 => intro u hu; simp at hu; subst hu; rfl
                  case c3 => unfold maxLen; omega
                  case c4 => omega
                  case c5 => have := hbu.size; simp; omega
                  intro v' w2 hown' hgrow _
                  go_wp2_with fail
                  refine ⟨?_, ?measure⟩
                  (repeat apply Exists.intro)
                  refine ⟨?rel, rfl⟩
                  case rel =>
                    refine ⟨j + 1, bs ++ [((j : Int) + 250) % 256], .inl (by omega), by go_num, by simp [hbl], hob.app (fun m hm => by simp at hm; omega), (Below.al hbu _).grown hgrow (by have := hbu.size; simp; omega) (fun j hj => (OWN.out.lt j hj).1), ?_⟩
                    rw [List.map_append]
                    exact hown'
                  case measure => simp [intOf]; omega
                · obtain ⟨da, dc, rfl, c1, c2, drow0⟩ := own_row hown rfl hob hbl
                  clear hown hob
                  have D0 : Hid (Row wr da j bs) := drow0
                  clear drow0
                  have B0 : Hid (Below U.heap.size U wr) := Below.andThen hb.out hbu
                  clear hbu hb
                  go_wp2_with fail
                  obtain ⟨x, HX⟩ : ∃ x : Int, n.tdiv 8 % 256 = x := ⟨_, rfl⟩
                  have hox : Oct [0, 0, 0, 0, 0, 0, 0, x] := fun m hm => by simp at hm; omega
                  rw [HX]
                  clear HX
                  refine (HM.out id n da j dc bs id n 0 0 0 0 0 0 0 x false _ (D0.out.next (Below.al (Below.al (Below.refl _ _) _) _)) hid hid hox).mono ?_
                  rintro e y1 ⟨rfl, hbx⟩
                  have H2 := hold2_next (boxed2 wr id n 0 0 0 0 0 0 0 x false id n 0 0 0 0 0 0 0 x true) hbx
                  have K2 : Hid _ := H2
                  obtain ⟨B2, a0, a1, a2, a3, a4, a5, a6, a7, a8, a9, a10, b0, b1, b2, b3, b4, b5, b6, b7, b8, b9, b10⟩ := H2
                  clear hbx
                  go_wp2_with fail
                  refine (HM.out id n da j dc bs id n 0 0 0 0 0 0 0 x true _ (D0.out.next B2) hid hid hox).mono ?_
                  rintro e y2 ⟨rfl, hbx⟩
                  have H2 := hold2_next K2.out hbx
                  clear K2 a0 a1 a2 a3 a4 a5 a6 a7 a8 a9 a10 b0 b1 b2 b3 b4 b5 b6 b7 b8 b9 b10
                  have K2 : Hid _ := H2
                  obtain ⟨B2, a0, a1, a2, a3, a4, a5, a6, a7, a8, a9, a10, b0, b1, b2, b3, b4, b5, b6, b7, b8, b9, b10⟩ := H2
                  clear hbx
                  go_wp2_with fail
                  refine (HB.out id n 0 0 0 0 0 0 0 x false id n 0 0 0 0 0 0 0 x true id n 0 0 0 0 0 0 0 0 false [] _ hid hox oct_nil).mono ?_
                  rintro e y3 ⟨rfl, hbx⟩
                  have H2 := hold2_next K2.out hbx
                  clear K2 a0 a1 a2 a3 a4 a5 a6 a7 a8 a9 a10 b0 b1 b2 b3 b4 b5 b6 b7 b8 b9 b10
                  have K2 : Hid _ := H2
                  obtain ⟨B2, a0, a1, a2, a3, a4, a5, a6, a7, a8, a9, a10, b0, b1, b2, b3, b4, b5, b6, b7, b8, b9, b10⟩ := H2
                  clear hbx
                  go_wp2_with fail
                  refine (HB.out id n 0 0 0 0 0 0 0 x true id n 0 0 0 0 0 0 0 x false id n 0 0 0 0 0 0 0 x false [] _ hid hox oct_nil).mono ?_
                  rintro e y4 ⟨rfl, hbx⟩
                  have H2 := hold2_next K2.out hbx
                  clear K2 a0 a1 a2 a3 a4 a5 a6 a7 a8 a9 a10 b0 b1 b2 b3 b4 b5 b6 b7 b8 b9 b10
                  have K2 : Hid _ := H2
                  obtain ⟨B2, a0, a1, a2, a3, a4, a5, a6, a7, a8, a9, a10, b0, b1, b2, b3, b4, b5, b6, b7, b8, b9, b10⟩ := H2
                  clear hbx
                  go_wp2_with fail
                  refine ⟨?_, ?measure⟩
                  (repeat apply Exists.intro)
                  refine ⟨?rel, rfl⟩
                  case rel => exact ⟨k + 1, by omega, by rw [← HN.out]; go_num, Below.andThen B0.out B2⟩
                  case measure => rw [← HN.out]; simp [intOf]; omega
            · obtain rfl : k = 11 := by omega
              go_wp2_with fail
              exact ⟨⟨q + 1, by omega, by go_num, hb.out⟩, by simp [intOf]; omega⟩
        · obtain rfl : q = 6 := by omega
          go_wp2_with fail
          refine (HM.out 5 (-9223372036854775808) none 0 0 [] 0 (-9223372036854775808) 0 0 0 0 0 0 0 0 false _ (row_nil _) (by decide) (by decide) oz).mono ?_
          rintro e y1 ⟨rfl, hb1⟩
          go_wp2_with fail
          refine (HM.out 5 9223372036854775807 none 0 0 [] 0 9223372036854775807 0 0 0 0 0 0 0 0 false _ (row_nil _) (by decide) (by decide) oz).mono ?_
          rintro e y2 ⟨rfl, hb2⟩
          go_wp2_with fail
          refine (HW.out _).mono ?_
          rintro e y3 ⟨rfl, hb3⟩
          go_wp2_with fail
          go_ret
          exact ⟨rfl, Below.andThen (Below.andThen (Below.andThen (Below.andThen BU.out hb.out) hb1) hb2) hb3⟩
#print axioms frameKnown_any
end Go.Proofs.Ytbjbnfhmehkkpaa
