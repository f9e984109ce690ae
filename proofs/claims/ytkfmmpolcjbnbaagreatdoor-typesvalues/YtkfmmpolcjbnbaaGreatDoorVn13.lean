/-
  TypesValues of any type and text.
-/
import Derived.Test.YtkfmmpolcjbnbaaGreatDoorVn12
import Derived.Test.YtkfmmpolcjbnbaaGreatDoorWk3
namespace Go.Proofs.YtkfmmpolcjbnbaaGreatDoor
open Pl Go.RowKit

theorem row_set {w : World} {a : Option Addr} {len g j : Nat} {zs : List Int} (h : Row w a len zs) (hn : ∀ b off, a = some ⟨b, off, none⟩ → 0 < len → b ≠ g) (v : Value) : Row (w.setCell ⟨g, j, none⟩ v) a len zs where
  size := h.size
  oct := h.oct
  at_ := fun hp => by
    obtain ⟨b, off, e, hc⟩ := h.at_ hp
    refine ⟨b, off, e, fun i hi => ?_⟩
    rw [World.cell?_setCell_other _ _ _ _ (by intro x; injection x with x1; exact hn b off e hp x1.symm)]
    exact hc i hi

set_option linter.unusedSimpArgs false in
set_option maxHeartbeats 4000000 in
set_option maxRecDepth 100000 in
theorem values_none (E : Int) (t : Int) (s : ByteArray) (w : World) (hT : Tabs w) (hs : ¬ (20000 : Int) < (s.size : Int))
    (V1 : ∀ w, Tabs w → Calls Tryz.prog 5 #[.int .u8 t, .string s] w fun e w' => e = .returned (.tuple #[.slice none 0 0, .int .i64 E]) ∧ Below w.heap.size w w')
    (V2 : ∀ w, Calls Tryz.prog 6 #[.int .u8 t, .string s] w fun e w' => e = .returned (.tuple #[.slice none 0 0, .int .i64 E]) ∧ Below w.heap.size w w') :
    Calls Tryz.prog 3 #[.int .u8 t, .string s] w fun e w' => e = .returned (.bool true) ∧ Below w.heap.size w w' := by
  have cv : ∀ w : World, (convert 23 9 (.slice none 0 0)).run Tryz.prog w = .ok (.string (strOfNums [])) w := fun w => (row_nil w).str' 0
  have ee : (E != E) = false := by simp
  go_enter Tryz.func3, Tryz.ntmps3
  go_wp2_with fail
  refine (V1 _ hT).mono ?_
  rintro e w1 ⟨rfl, b1⟩
  go_wp2_with fail
  refine (V2 _).mono ?_
  rintro e w2 ⟨rfl, b2⟩
  have B2 : Below w.heap.size w w2 := Below.andThen b1 b2
  clear b1 b2
  go_wp2_with fail
  go_loopw [9] (fun u vr => u = .int .i64 0 ∧ vr = w2) (fun _ _ => 0)
  case atStart => exact ⟨rfl, rfl⟩
  case round =>
    obtain ⟨rfl, rfl⟩ := hrel
    go_wp2_with fail
    refine (V1 _ (hT.next B2)).mono ?_
    rintro e w3 ⟨rfl, b3⟩
    have B3 : Below w.heap.size w w3 := Below.andThen B2 b3
    clear b3
    go_wp2_with fail
    refine (works_any _ (hT.next B3)).mono ?_
    rintro e w4 ⟨rfl, b4⟩
    go_wp2_with fail
    go_ret
    exact ⟨rfl, Below.andThen B3 b4⟩
#print axioms values_none

set_option linter.unusedSimpArgs false in
set_option maxHeartbeats 4000000 in
set_option maxRecDepth 100000 in
theorem values_some (zs : List Int) (hz : zs.length ≤ 4096) (t : Int) (s : ByteArray) (w : World) (hT : Tabs w) (hs : ¬ (20000 : Int) < (s.size : Int))
    (V1 : ∀ w, Tabs w → Calls Tryz.prog 5 #[.int .u8 t, .string s] w fun e w' => (∃ a len cap, e = .returned (.tuple #[.slice a len cap, .int .i64 0]) ∧ Told w w' a len cap zs) ∧ Below w.heap.size w w')
    (V2 : ∀ w, Calls Tryz.prog 6 #[.int .u8 t, .string s] w fun e w' => (∃ a len cap, e = .returned (.tuple #[.slice a len cap, .int .i64 0]) ∧ Told w w' a len cap zs) ∧ Below w.heap.size w w') :
    Calls Tryz.prog 3 #[.int .u8 t, .string s] w fun e w' => e = .returned (.bool true) ∧ Below w.heap.size w w' := by
  go_enter Tryz.func3, Tryz.ntmps3
  go_wp2_with fail
  refine (V1 _ hT).mono ?_
  rintro e w1 ⟨⟨a, len, cap, rfl, ht⟩, b1⟩
  go_wp2_with fail
  refine (V2 _).mono ?_
  rintro e w2 ⟨⟨a2, len2, cap2, rfl, ht2⟩, b2⟩
  have B2 : Below w.heap.size w w2 := Below.andThen b1 b2
  have r1 := ht.row.next b2
  have r2 := ht2.row
  obtain rfl : len = len2 := by rw [← r1.size, ← r2.size]
  have hlen : len ≤ 4096 := by rw [← r1.size]; exact hz
  have cv1 := r1.str' cap
  have cv2 := r2.str' cap2
  have OWN : Hid (0 < len → ∃ g, a = some ⟨g, 0, none⟩ ∧ w.heap.size ≤ g ∧ (∀ b off, a2 = some ⟨b, off, none⟩ → 0 < len → b ≠ g) ∧ ∀ i, i < len → (∃ v, w2.cell? ⟨g, i, none⟩ = some (.int .u8 v)) ∧ w2.frozen? ⟨g, i, none⟩ = false) := fun hp => by
    obtain ⟨g, rfl, hg, hf⟩ := ht.own hp
    have hgl := ht.row.old hp g 0 rfl
    obtain ⟨g2, e2, hg2, _⟩ := ht2.own hp
    obtain ⟨b', off', e', hc⟩ := r1.at_ hp
    cases e'
    refine ⟨g, rfl, hg, fun b off e _ => ?_, fun i hi => ⟨⟨zs.getD i 0, ?_⟩, ?_⟩⟩
    · rw [e2] at e
      injection e with e
      injection e with e
      omega
    · have := hc i hi
      rw [Nat.zero_add] at this
      exact this
    · rw [World.frozen?_of_block (w := w1) (w' := w2) (b2.block g hgl)]; exact hf i hi
  have RB : Hid (Row w2 a2 len zs) := r2
  clear ht ht2 b1 b2 r1 r2
  go_wp2_with fail
  clear cv1 cv2
  have INI : Hid (Below w.heap.size w w2 ∧ Row w2 a2 len zs) := ⟨B2, RB.out⟩
  clear B2 RB
  rcases Nat.eq_zero_or_pos len with h0 | hp
  · subst h0
    go_loopw [9] (fun u vr => u = .int .i64 0 ∧ vr = w2) (fun _ _ => 0)
    case atStart => exact ⟨rfl, rfl⟩
    case round =>
      obtain ⟨rfl, rfl⟩ := hrel
      go_wp2_with fail
      have B4 := INI.out.1
      refine (V1 _ (hT.next B4)).mono ?_
      rintro e w5 ⟨⟨a5, len5, cap5, rfl, ht5⟩, b5⟩
      have B5 : Below w.heap.size w w5 := Below.andThen B4 b5
      have cv1 := ht5.row.str' cap5
      have cv2 := (INI.out.2.next b5).str' cap2
      clear ht5 b5 INI
      go_wp2_with fail
      refine (works_any _ (hT.next B5)).mono ?_
      rintro e w6 ⟨rfl, b6⟩
      go_wp2_with fail
      go_ret
      exact ⟨rfl, Below.andThen B5 b6⟩
  · obtain ⟨g, rfl, hg, hne, hc⟩ := OWN.out hp
    go_loopw [9] (fun u vr => ∃ j : Nat, j ≤ len ∧ u = .int .i64 j ∧ Below w.heap.size w vr ∧ Row vr a2 len zs ∧ ∀ i, i < len → (∃ v, vr.cell? ⟨g, i, none⟩ = some (.int .u8 v)) ∧ vr.frozen? ⟨g, i, none⟩ = false) (fun u _ => len - (intOf u).toNat)
    case atStart => exact ⟨0, by omega, rfl, INI.out.1, INI.out.2, hc⟩
    case round =>
      clear hc INI OWN
      obtain ⟨j, hj, rfl, B3, R3, hc⟩ := hrel
      by_cases hlt : j < len
      · have gj : (j : Int) < (len : Int) := by omega
        obtain ⟨⟨v, cv⟩, cf⟩ := hc j hlt
        have NX : Hid (∀ q, Below w.heap.size w (wr.setCell ⟨g, j, none⟩ (.int .u8 q)) ∧ Row (wr.setCell ⟨g, j, none⟩ (.int .u8 q)) a2 len zs ∧ ∀ i, i < len → (∃ v, (wr.setCell ⟨g, j, none⟩ (.int .u8 q)).cell? ⟨g, i, none⟩ = some (.int .u8 v)) ∧ (wr.setCell ⟨g, j, none⟩ (.int .u8 q)).frozen? ⟨g, i, none⟩ = false) := fun q => by
          refine ⟨B3.setCell hg _, row_set R3 hne _, fun i hi => ?_⟩
          by_cases e : j = i
          · subst e
            exact ⟨⟨q, World.cell?_setCell_same _ _ _ cv⟩, by rw [World.frozen?_setCell]; exact cf⟩
          · obtain ⟨⟨u, cu⟩, cf2⟩ := hc i hi
            exact ⟨⟨u, by rw [World.cell?_setCell_other _ _ _ _ (by intro x; injection x with x1 x2; exact e x2)]; exact cu⟩, by rw [World.frozen?_setCell]; exact cf2⟩
        clear hc B3 R3
        go_wp2_with fail
        exact ⟨⟨j + 1, by omega, by go_num, NX.out _⟩, by simp [intOf]; omega⟩
      · have gj : ¬ (j : Int) < (len : Int) := by omega
        have INI : Hid (Below w.heap.size w wr ∧ Row wr a2 len zs) := ⟨B3, R3⟩
        clear hc B3 R3
        go_wp2_with fail
        have B4 := INI.out.1
        refine (V1 _ (hT.next B4)).mono ?_
        rintro e w5 ⟨⟨a5, len5, cap5, rfl, ht5⟩, b5⟩
        have B5 : Below w.heap.size w w5 := Below.andThen B4 b5
        have cv1 := ht5.row.str' cap5
        have cv2 := (INI.out.2.next b5).str' cap2
        clear ht5 b5 INI
        go_wp2_with fail
        refine (works_any _ (hT.next B5)).mono ?_
        rintro e w6 ⟨rfl, b6⟩
        go_wp2_with fail
        go_ret
        exact ⟨rfl, Below.andThen B5 b6⟩
#print axioms values_some

set_option linter.unusedSimpArgs false in
set_option maxHeartbeats 4000000 in
set_option maxRecDepth 100000 in
theorem typesValues_any (hR : RealIs) (hU : UnqIs) (t : Int) (l : List UInt8) (w : World) (hT : Tabs w) :
    Calls Tryz.prog 3 #[.int .u8 t, .string (str l)] w fun e w' => e = .returned (.bool true) ∧ Below w.heap.size w w' := by
  by_cases h2 : (20000 : Int) < (l.length : Int)
  · obtain ⟨sl, HSL, _, hsz, _⟩ := str_facts l
    rw [HSL.out]
    go_enter Tryz.func3, Tryz.ntmps3
    go_wp2_with fail
    refine (works_any _ hT).mono ?_
    rintro e w1 ⟨rfl, hb1⟩
    go_wp2_with fail
    go_ret
    exact ⟨rfl, hb1⟩
  have hsz : (str l).size = l.length := by unfold str; simp [ByteArray.size]
  have hs : ¬ (20000 : Int) < ((str l).size : Int) := by rw [hsz]; exact h2
  by_cases hk : kindN t = 0
  · exact values_none 10 t (str l) w hT hs (fun w _ => value_none t (str l) w hk) (fun w => (refValue_none t (str l) w hk).mono (fun e w' h => ⟨h.1, by rw [h.2]; exact Below.refl _ _⟩))
  · have V1 := fun w hT => value_any t l w hk (by omega) hT
    have V2 := fun w => refValue_any hR hU t l w (by omega) hk
    cases hv : valN t l with
    | none =>
      rw [hv] at V1 V2
      exact values_none 12 t (str l) w hT hs V1 V2
    | some zs =>
      rw [hv] at V1 V2
      exact values_some zs (val_ok t l zs hk hv).2.2 t (str l) w hT hs V1 V2
theorem typesValues_str (hR : RealIs) (hU : UnqIs) (t : Int) (s : ByteArray) (w : World) (hT : Tabs w) :
    Calls Tryz.prog 3 #[.int .u8 t, .string s] w fun e w' => e = .returned (.bool true) ∧ Below w.heap.size w w' := by
  have h := typesValues_any hR hU t s.data.toList w hT
  rwa [show str s.data.toList = s from by cases s; simp [str]] at h
#print axioms typesValues_str
end Go.Proofs.YtkfmmpolcjbnbaaGreatDoor
