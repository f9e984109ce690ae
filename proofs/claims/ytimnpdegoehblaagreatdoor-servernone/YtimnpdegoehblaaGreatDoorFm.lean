/-
  Frames as values; the walks of frame's padded, carried, Right, Make.
-/
import Derived.Test.YtimnpdegoehblaaGreatDoorSa
import Derived.Deep.WholeRow
import Derived.Deep.RegionHeld3
import Derived.Laws.CopyOwn
namespace Go.Proofs.YtimnpdegoehblaaGreatDoor
open Go.RowKit

/-- The first eight of a row, noughts behind. -/
abbrev arrL (zs : List Int) : Value := arr8 (zb zs 0) (zb zs 1) (zb zs 2) (zb zs 3) (zb zs 4) (zb zs 5) (zb zs 6) (zb zs 7)
/-- A frame's cells. -/
abbrev frC (id n d0 d1 d2 d3 d4 d5 d6 d7 : Int) (r : Bool) : Array Value := #[.int .u16 id, .int .i64 n, .int .u8 d0, .int .u8 d1, .int .u8 d2, .int .u8 d3, .int .u8 d4, .int .u8 d5, .int .u8 d6, .int .u8 d7, .bool r]
/-- A frame. -/
abbrev frV (id n d0 d1 d2 d3 d4 d5 d6 d7 : Int) (r : Bool) : Value := .agg (frC id n d0 d1 d2 d3 d4 d5 d6 d7 r)


set_option maxRecDepth 100000 in
/-- The copy of a row, at most 8 bytes, into eight noughts. -/
theorem copy8 (ty : TypeId) (w : World) (a : Option Addr) (len cap : Nat) (zs : List Int) (hr : Row w a len zs) (h8 : len ≤ 8) :
    (Builtin.copy_ #[42, 42] ty #[.slice (some ⟨w.heap.size + 1, 0, none⟩) 8 8, .slice a len cap]).run Tryz.prog ((w.alloc (.cells #[.int .u8 0, .int .u8 0, .int .u8 0, .int .u8 0, .int .u8 0, .int .u8 0, .int .u8 0, .int .u8 0] 23)).alloc (.cells #[.int .u8 0, .int .u8 0, .int .u8 0, .int .u8 0, .int .u8 0, .int .u8 0, .int .u8 0, .int .u8 0] 23)) = .ok (.int .i64 len)
      ((w.alloc (.cells #[.int .u8 0, .int .u8 0, .int .u8 0, .int .u8 0, .int .u8 0, .int .u8 0, .int .u8 0, .int .u8 0] 23)).alloc (.cells #[.int .u8 (zb zs 0), .int .u8 (zb zs 1), .int .u8 (zb zs 2), .int .u8 (zb zs 3), .int .u8 (zb zs 4), .int .u8 (zb zs 5), .int .u8 (zb zs 6), .int .u8 (zb zs 7)] 23)) := by
  have hs := hr.size
  have hb : Below w.heap.size w ((w.alloc (.cells #[.int .u8 0, .int .u8 0, .int .u8 0, .int .u8 0, .int .u8 0, .int .u8 0, .int .u8 0, .int .u8 0] 23)).alloc (.cells #[.int .u8 0, .int .u8 0, .int .u8 0, .int .u8 0, .int .u8 0, .int .u8 0, .int .u8 0, .int .u8 0] 23)) := Below.al (Below.al (Below.refl _ _) _) _
  have hr' := hr.next hb
  have hg : ((w.alloc (.cells #[.int .u8 0, .int .u8 0, .int .u8 0, .int .u8 0, .int .u8 0, .int .u8 0, .int .u8 0, .int .u8 0] 23)).alloc (.cells #[.int .u8 0, .int .u8 0, .int .u8 0, .int .u8 0, .int .u8 0, .int .u8 0, .int .u8 0, .int .u8 0] 23)).heap[w.heap.size + 1]? = some (.cells #[.int .u8 0, .int .u8 0, .int .u8 0, .int .u8 0, .int .u8 0, .int .u8 0, .int .u8 0, .int .u8 0] 23 (0, 0)) := by
    rw [show w.heap.size + 1 = (w.alloc (.cells #[.int .u8 0, .int .u8 0, .int .u8 0, .int .u8 0, .int .u8 0, .int .u8 0, .int .u8 0, .int .u8 0] 23)).heap.size from by simp]
    exact heap_new _ _
  have hset : ∀ C, ((w.alloc (.cells #[.int .u8 0, .int .u8 0, .int .u8 0, .int .u8 0, .int .u8 0, .int .u8 0, .int .u8 0, .int .u8 0] 23)).alloc (.cells #[.int .u8 0, .int .u8 0, .int .u8 0, .int .u8 0, .int .u8 0, .int .u8 0, .int .u8 0, .int .u8 0] 23)).setRow (w.heap.size + 1) C = (w.alloc (.cells #[.int .u8 0, .int .u8 0, .int .u8 0, .int .u8 0, .int .u8 0, .int .u8 0, .int .u8 0, .int .u8 0] 23)).alloc (.cells C 23) := by
    intro C
    have := World.setRow_alloc_new (w.alloc (.cells #[.int .u8 0, .int .u8 0, .int .u8 0, .int .u8 0, .int .u8 0, .int .u8 0, .int .u8 0, .int .u8 0] 23)) #[.int .u8 0, .int .u8 0, .int .u8 0, .int .u8 0, .int .u8 0, .int .u8 0, .int .u8 0, .int .u8 0] C 23
    rwa [show (w.alloc (.cells #[.int .u8 0, .int .u8 0, .int .u8 0, .int .u8 0, .int .u8 0, .int .u8 0, .int .u8 0, .int .u8 0] 23)).heap.size = w.heap.size + 1 from by simp] at this
  rcases Nat.eq_zero_or_pos len with h0 | hp
  · subst h0
    rw [Row.nil hr]
    exact run_copy_none (P := Tryz.prog) _ 42 42 ty 5 (some ⟨w.heap.size + 1, 0, none⟩) a 8 8 0 cap Tryz.underlying42 info8s (by simp)
  · obtain ⟨b, off, rfl, hc⟩ := hr'.at_ hp
    have := run_copy_row (P := Tryz.prog) _ 42 42 ty 5 (w.heap.size + 1) 0 8 8 ⟨b, off, none⟩ len cap _ _ (zs.map (Value.int .u8)) Tryz.underlying42 info8s hg (by rw [List.length_map, hs]; exact (Nat.min_eq_left h8).symm) hr'.cells (by simp; omega) (fun v hv => by obtain ⟨_, _, rfl⟩ := List.mem_map.1 hv; rfl)
    rw [this, hset]
    have e : (zs.map (Value.int .u8)).length = len := by simp [hs]
    rw [e]
    congr 3
    have h9 : len = 1 ∨ len = 2 ∨ len = 3 ∨ len = 4 ∨ len = 5 ∨ len = 6 ∨ len = 7 ∨ len = 8 := by omega
    clear e this hr hr' hg hc hb hset
    rcases h9 with rfl | rfl | rfl | rfl | rfl | rfl | rfl | rfl
    · match zs, hs with | [a], _ => rfl
    · match zs, hs with | [a, b], _ => rfl
    · match zs, hs with | [a, b, c], _ => rfl
    · match zs, hs with | [a, b, c, d], _ => rfl
    · match zs, hs with | [a, b, c, d, e], _ => rfl
    · match zs, hs with | [a, b, c, d, e, f], _ => rfl
    · match zs, hs with | [a, b, c, d, e, f, g], _ => rfl
    · match zs, hs with | [a, b, c, d, e, f, g, h], _ => rfl
#print axioms copy8

set_option maxHeartbeats 1000000 in
set_option maxRecDepth 100000 in
theorem padded_any (a : Option Addr) (len cap : Nat) (zs : List Int) (w : World) (hr : Row w a len zs) (h8 : len ≤ 8) :
    Calls Tryz.prog 38 #[.slice a len cap] w fun e w' => e = .returned (arrL zs) ∧ Below w.heap.size w w' := by
  have hcp := fun ty => copy8 ty w a len cap zs hr h8
  go_enter Tryz.func38, Tryz.ntmps38
  go_wp2_with fail
  exact bodyPost_ret (v := arrL zs) (by simp [results, Tryz.results38, go_sem]) rfl ⟨rfl, Below.al (Below.al (Below.refl _ _) _) _⟩

set_option maxHeartbeats 1000000 in
set_option maxRecDepth 100000 in
theorem carried_ask (id n d0 d1 d2 d3 d4 d5 d6 d7 : Int) (w : World) :
    Calls Tryz.prog 39 #[frV id n d0 d1 d2 d3 d4 d5 d6 d7 true] w fun e w' => e = .returned (.slice none 0 0) ∧ Below w.heap.size w w' := by
  go_enter Tryz.func39, Tryz.ntmps39
  go_wp2_with fail
  go_ret
  exact ⟨rfl, Below.al (Below.refl _ _) _⟩

set_option maxHeartbeats 1000000 in
set_option maxRecDepth 100000 in
theorem carried_data (id d0 d1 d2 d3 d4 d5 d6 d7 : Int) (n : Nat) (w : World) (h8 : n ≤ 8) :
    Calls Tryz.prog 39 #[frV id n d0 d1 d2 d3 d4 d5 d6 d7 false] w fun e w' => e = .returned (.slice (some ⟨w.heap.size, 2, none⟩) n 8) ∧ w' = w.alloc (.cells (frC id n d0 d1 d2 d3 d4 d5 d6 d7 false) 25) := by
  have h8' : (n : Int) ≤ 8 := by omega
  go_enter Tryz.func39, Tryz.ntmps39
  go_wp2_with fail
  go_ret
  exact ⟨rfl, rfl⟩

/-- The bytes that a frame carries. -/
def carL (n : Int) (ds : List Int) (r : Bool) : List Int := if r then [] else ds.take n.toNat
/-- Is a frame right? -/
def rightB (id n : Int) (ds : List Int) (r : Bool) : Bool := decide (id ≤ 2047) && (decide (0 ≤ n) && (decide (n ≤ 8) && ((List.range 8).all fun i => zb ds i == zb (carL n ds r) i)))
/-- May that byte be? -/
def okB (n : Int) (ds : List Int) (r : Bool) (i : Nat) : Bool := zb ds i == 0 || (decide ((i : Int) < n) && !r)

theorem zb_carL (n : Int) (ds : List Int) (r : Bool) (i : Nat) (h0 : 0 ≤ n) : zb (carL n ds r) i = if (i : Int) < n ∧ r = false then zb ds i else 0 := by
  cases r
  · simp only [carL, zb, List.getD_eq_getElem?_getD, Bool.false_eq_true, if_false, and_true]
    by_cases h : (i : Int) < n
    · rw [if_pos h, List.getElem?_take_of_lt (by omega)]
    · rw [if_neg h, List.getElem?_take_eq_none (by omega)]; rfl
  · simp [carL, zb]
theorem okB_eq (n : Int) (ds : List Int) (r : Bool) (i : Nat) (h0 : 0 ≤ n) : (zb ds i == zb (carL n ds r) i) = okB n ds r i := by
  rw [zb_carL n ds r i h0, okB]
  by_cases h : (i : Int) < n <;> cases r <;> simp [h]
theorem rightB_ok (id n : Int) (ds : List Int) (r : Bool) (h0 : 0 ≤ n) : rightB id n ds r = (decide (id ≤ 2047) && (decide (n ≤ 8) && ((List.range 8).all fun i => okB n ds r i))) := by
  unfold rightB
  simp only [okB_eq n ds r _ h0, h0, decide_true, Bool.true_and]

theorem carried_any (id n d0 d1 d2 d3 d4 d5 d6 d7 : Int) (r : Bool) (w : World) (h0 : 0 ≤ n) (h8 : n ≤ 8) (ho : Oct [d0, d1, d2, d3, d4, d5, d6, d7]) :
    Calls Tryz.prog 39 #[frV id n d0 d1 d2 d3 d4 d5 d6 d7 r] w fun e w' => ∃ a len cap, e = .returned (.slice a len cap) ∧ len ≤ 8 ∧ Row w' a len (carL n [d0, d1, d2, d3, d4, d5, d6, d7] r) ∧ Below w.heap.size w w' := by
  obtain ⟨m, rfl⟩ := Int.eq_ofNat_of_zero_le h0
  cases r with
  | true =>
    refine (carried_ask id m d0 d1 d2 d3 d4 d5 d6 d7 w).mono ?_
    rintro e w' ⟨rfl, hb⟩
    exact ⟨none, 0, 0, rfl, by decide, row_nil _, hb⟩
  | false =>
    refine (carried_data id d0 d1 d2 d3 d4 d5 d6 d7 m w (by omega)).mono ?_
    rintro e w' ⟨rfl, rfl⟩
    refine ⟨_, m, 8, rfl, by omega, ⟨by simp [carL]; omega, ho.take _, fun _ => ⟨_, 2, rfl, fun i hi => ?_⟩⟩, Below.al (Below.refl _ _) _⟩
    have h9 : i = 0 ∨ i = 1 ∨ i = 2 ∨ i = 3 ∨ i = 4 ∨ i = 5 ∨ i = 6 ∨ i = 7 := by omega
    have e : (carL m [d0, d1, d2, d3, d4, d5, d6, d7] false).getD i 0 = zb [d0, d1, d2, d3, d4, d5, d6, d7] i := by
      have := zb_carL m [d0, d1, d2, d3, d4, d5, d6, d7] false i h0
      rw [if_pos ⟨by omega, rfl⟩] at this
      exact this
    rw [World.cell?_alloc_new, e]
    rcases h9 with rfl | rfl | rfl | rfl | rfl | rfl | rfl | rfl <;> rfl

/-- What is known of a boxed frame stays where nothing old turns. -/
theorem hold_next {w0 w w' : World} {B : Nat} {id n d0 d1 d2 d3 d4 d5 d6 d7 : Int} {r : Bool} (h : Below w0.heap.size w0 w ∧ w.cell? ⟨B, 0, none⟩ = some (.int .u16 id) ∧ w.cell? ⟨B, 1, none⟩ = some (.int .i64 n) ∧ w.cell? ⟨B, 2, none⟩ = some (.int .u8 d0) ∧ w.cell? ⟨B, 3, none⟩ = some (.int .u8 d1) ∧ w.cell? ⟨B, 4, none⟩ = some (.int .u8 d2) ∧ w.cell? ⟨B, 5, none⟩ = some (.int .u8 d3) ∧ w.cell? ⟨B, 6, none⟩ = some (.int .u8 d4) ∧ w.cell? ⟨B, 7, none⟩ = some (.int .u8 d5) ∧ w.cell? ⟨B, 8, none⟩ = some (.int .u8 d6) ∧ w.cell? ⟨B, 9, none⟩ = some (.int .u8 d7) ∧ w.cell? ⟨B, 10, none⟩ = some (.bool r)) (hb : Below w.heap.size w w') : Below w0.heap.size w0 w' ∧ w'.cell? ⟨B, 0, none⟩ = some (.int .u16 id) ∧ w'.cell? ⟨B, 1, none⟩ = some (.int .i64 n) ∧ w'.cell? ⟨B, 2, none⟩ = some (.int .u8 d0) ∧ w'.cell? ⟨B, 3, none⟩ = some (.int .u8 d1) ∧ w'.cell? ⟨B, 4, none⟩ = some (.int .u8 d2) ∧ w'.cell? ⟨B, 5, none⟩ = some (.int .u8 d3) ∧ w'.cell? ⟨B, 6, none⟩ = some (.int .u8 d4) ∧ w'.cell? ⟨B, 7, none⟩ = some (.int .u8 d5) ∧ w'.cell? ⟨B, 8, none⟩ = some (.int .u8 d6) ∧ w'.cell? ⟨B, 9, none⟩ = some (.int .u8 d7) ∧ w'.cell? ⟨B, 10, none⟩ = some (.bool r) := by
  obtain ⟨h0, c0, c1, c2, c3, c4, c5, c6, c7, c8, c9, c10⟩ := h
  have hB : B < w.heap.size := block_lt_of_cell c0
  exact ⟨Below.andThen h0 hb, (hb.cell (p := ⟨B, 0, none⟩) hB).trans c0, (hb.cell (p := ⟨B, 1, none⟩) hB).trans c1, (hb.cell (p := ⟨B, 2, none⟩) hB).trans c2, (hb.cell (p := ⟨B, 3, none⟩) hB).trans c3, (hb.cell (p := ⟨B, 4, none⟩) hB).trans c4, (hb.cell (p := ⟨B, 5, none⟩) hB).trans c5, (hb.cell (p := ⟨B, 6, none⟩) hB).trans c6, (hb.cell (p := ⟨B, 7, none⟩) hB).trans c7, (hb.cell (p := ⟨B, 8, none⟩) hB).trans c8, (hb.cell (p := ⟨B, 9, none⟩) hB).trans c9, (hb.cell (p := ⟨B, 10, none⟩) hB).trans c10⟩

set_option maxHeartbeats 2000000 in
set_option maxRecDepth 100000 in
theorem right_any (id n d0 d1 d2 d3 d4 d5 d6 d7 : Int) (r : Bool) (w : World) (ho : Oct [d0, d1, d2, d3, d4, d5, d6, d7]) :
    Calls Tryz.prog 20 #[frV id n d0 d1 d2 d3 d4 d5 d6 d7 r] w fun e w' => e = .returned (.bool (rightB id n [d0, d1, d2, d3, d4, d5, d6, d7] r)) ∧ Below w.heap.size w w' := by
  by_cases h1 : 2047 < id
  · have H : Hid (rightB id n [d0, d1, d2, d3, d4, d5, d6, d7] r = false) := by show _ = _; simp [rightB]; omega
    go_enter Tryz.func20, Tryz.ntmps20
    go_wp2_with fail
    go_ret
    exact ⟨ret_bool H.out.symm, Below.al (Below.refl _ _) _⟩
  by_cases h2 : n < 0
  · have H : Hid (rightB id n [d0, d1, d2, d3, d4, d5, d6, d7] r = false) := by show _ = _; simp [rightB]; omega
    go_enter Tryz.func20, Tryz.ntmps20
    go_wp2_with fail
    go_ret
    exact ⟨ret_bool H.out.symm, Below.al (Below.refl _ _) _⟩
  by_cases h3 : 8 < n
  · have H : Hid (rightB id n [d0, d1, d2, d3, d4, d5, d6, d7] r = false) := by show _ = _; simp [rightB]; omega
    go_enter Tryz.func20, Tryz.ntmps20
    go_wp2_with fail
    go_ret
    exact ⟨ret_bool H.out.symm, Below.al (Below.refl _ _) _⟩
  obtain ⟨zs, hz⟩ : ∃ zs, carL n [d0, d1, d2, d3, d4, d5, d6, d7] r = zs := ⟨_, rfl⟩
  have H : Hid (rightB id n [d0, d1, d2, d3, d4, d5, d6, d7] r = same8 d0 d1 d2 d3 d4 d5 d6 d7 (zb zs 0) (zb zs 1) (zb zs 2) (zb zs 3) (zb zs 4) (zb zs 5) (zb zs 6) (zb zs 7)) := by
    show _ = _
    unfold rightB
    rw [hz, decide_eq_true (show id ≤ 2047 by omega), decide_eq_true (show 0 ≤ n by omega), decide_eq_true (show n ≤ 8 by omega)]
    rfl
  have hcar := fun w => carried_any id n d0 d1 d2 d3 d4 d5 d6 d7 r w (by omega) (by omega) ho
  rw [hz] at hcar
  clear hz
  have hq := fun w => eql8 w d0 d1 d2 d3 d4 d5 d6 d7 (zb zs 0) (zb zs 1) (zb zs 2) (zb zs 3) (zb zs 4) (zb zs 5) (zb zs 6) (zb zs 7)
  go_enter Tryz.func20, Tryz.ntmps20
  go_wp2_with fail
  go_region_held3 (fun x => Below w.heap.size w x ∧ x.cell? ⟨w.heap.size, 0, none⟩ = some (.int .u16 id) ∧ x.cell? ⟨w.heap.size, 1, none⟩ = some (.int .i64 n) ∧ x.cell? ⟨w.heap.size, 2, none⟩ = some (.int .u8 d0) ∧ x.cell? ⟨w.heap.size, 3, none⟩ = some (.int .u8 d1) ∧ x.cell? ⟨w.heap.size, 4, none⟩ = some (.int .u8 d2) ∧ x.cell? ⟨w.heap.size, 5, none⟩ = some (.int .u8 d3) ∧ x.cell? ⟨w.heap.size, 6, none⟩ = some (.int .u8 d4) ∧ x.cell? ⟨w.heap.size, 7, none⟩ = some (.int .u8 d5) ∧ x.cell? ⟨w.heap.size, 8, none⟩ = some (.int .u8 d6) ∧ x.cell? ⟨w.heap.size, 9, none⟩ = some (.int .u8 d7) ∧ x.cell? ⟨w.heap.size, 10, none⟩ = some (.bool r)) (first | (simp [go_sem]; done) | (refine ⟨Below.drew (Below.al (Below.refl _ _) _), ?_⟩; simp [go_sem]; done) | exact hold_next (by assumption) hb1 | exact hold_next (by assumption) hb2)
    (first | ((go_at_call 39; refine (hcar _).mono ?_; rintro e w1 ⟨a1, l1, c1, rfl, hl1, hr1, hb1⟩)) | ((go_at_call 38; refine (padded_any _ _ _ zs _ hr1 hl1).mono ?_; rintro e w2 ⟨rfl, hb2⟩)))
  have hB : Below w.heap.size w w2 := And.left (by assumption)
  go_wp2_with fail
  go_ret
  exact ⟨ret_bool H.out.symm, hB⟩

theorem infoF : (Tryz.prog.info? 25).map (·.size) = some 11 := by kernel_rfl

theorem frC_one (id n d0 d1 d2 d3 d4 d5 d6 d7 : Int) (r : Bool) : (frC id n d0 d1 d2 d3 d4 d5 d6 d7 r).all (·.oneCell') = true := by simp [Value.oneCell']

/-- A frame and a code. -/
structure FrR where
  i : Int
  n : Int
  d0 : Int
  d1 : Int
  d2 : Int
  d3 : Int
  d4 : Int
  d5 : Int
  d6 : Int
  d7 : Int
  r : Bool
  c : Int
/-- As a call's two results. -/
abbrev FrR.tup (q : FrR) : Value := .tuple #[frV q.i q.n q.d0 q.d1 q.d2 q.d3 q.d4 q.d5 q.d6 q.d7 q.r, .int .i64 q.c]
def FrR.ds (q : FrR) : List Int := [q.d0, q.d1, q.d2, q.d3, q.d4, q.d5, q.d6, q.d7]
/-- No frame, with a code. -/
def noFr (c : Int) : FrR := ⟨0, 0, 0, 0, 0, 0, 0, 0, 0, 0, false, c⟩
/-- What Make tells. -/
def mkR (id : Int) (zs : List Int) : FrR := if id ≤ 2047 ∧ zs.length ≤ 8 then ⟨id, zs.length, zb zs 0, zb zs 1, zb zs 2, zb zs 3, zb zs 4, zb zs 5, zb zs 6, zb zs 7, false, 0⟩ else noFr 2

theorem mkR_good (id : Int) (zs : List Int) (h1 : id ≤ 2047) (h2 : zs.length ≤ 8) : mkR id zs = ⟨id, zs.length, zb zs 0, zb zs 1, zb zs 2, zb zs 3, zb zs 4, zb zs 5, zb zs 6, zb zs 7, false, 0⟩ := if_pos ⟨h1, h2⟩
theorem mkR_bad (id : Int) (zs : List Int) (h : 2047 < id ∨ 8 < zs.length) : mkR id zs = noFr 2 := if_neg (by omega)

set_option maxHeartbeats 2000000 in
set_option maxRecDepth 100000 in
theorem make_any (id : Int) (a : Option Addr) (len cap : Nat) (zs : List Int) (w : World) (hr : Row w a len zs) :
    Calls Tryz.prog 58 #[.int .u16 id, .slice a len cap] w fun e w' => e = .returned (mkR id zs).tup ∧ Below w.heap.size w w' := by
  have hs := hr.size
  by_cases h1 : 2047 < id
  · rw [mkR_bad id zs (.inl h1)]
    go_enter Tryz.func58, Tryz.ntmps58
    go_wp2_with fail
    exact bodyPost_ret (v := (noFr 2).tup) (by simp [results, Tryz.results58, go_sem, noFr]) rfl ⟨rfl, Below.al (Below.refl _ _) _⟩
  by_cases h2 : (8 : Int) < (len : Int)
  · rw [mkR_bad id zs (.inr (by omega))]
    go_enter Tryz.func58, Tryz.ntmps58
    go_wp2_with fail
    exact bodyPost_ret (v := (noFr 2).tup) (by simp [results, Tryz.results58, go_sem, noFr]) rfl ⟨rfl, Below.al (Below.refl _ _) _⟩
  rw [mkR_good id zs (by omega) (by omega), hs]
  clear hs
  go_enter Tryz.func58, Tryz.ntmps58
  go_wp2_with fail
  refine (padded_any a len cap zs _ (hr.next (Below.al (Below.refl _ _) _)) (by omega)).mono ?_
  rintro e w1 ⟨rfl, hb⟩
  have hg : w1.heap[w.heap.size]? = some (.cells (frC 0 0 0 0 0 0 0 0 0 0 false) 25 (0, 0)) := (hb.block _ (by simp)).trans (heap_new _ _)
  have B1 : Below w.heap.size w w1 := Below.andThen (Below.al (Below.refl _ _) _) hb
  clear hb
  go_wp2_with (refine wpList_store_row rfl 25 _ _ rfl w.heap.size (frC id len (zb zs 0) (zb zs 1) (zb zs 2) (zb zs 3) (zb zs 4) (zb zs 5) (zb zs 6) (zb zs 7) false) rfl rfl 25 _ hg infoF rfl (frC_one _ _ _ _ _ _ _ _ _ _ _) ?_)
  have hc := fun j => cell_of_row (w1.setRow w.heap.size (frC id len (zb zs 0) (zb zs 1) (zb zs 2) (zb zs 3) (zb zs 4) (zb zs 5) (zb zs 6) (zb zs 7) false)) w.heap.size j _ _ _ (setRow_heap _ _ _ _ _ _ hg)
  refine bodyPost_ret (v := FrR.tup ⟨id, len, zb zs 0, zb zs 1, zb zs 2, zb zs 3, zb zs 4, zb zs 5, zb zs 6, zb zs 7, false, 0⟩) ?_ rfl ⟨rfl, below_setRow B1 (Nat.le_refl _) _⟩
  simp [results, Tryz.results58, go_sem, hc]
end Go.Proofs.YtimnpdegoehblaaGreatDoor
