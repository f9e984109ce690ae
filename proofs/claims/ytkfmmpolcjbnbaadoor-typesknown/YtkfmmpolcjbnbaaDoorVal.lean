/-
  Value around any reader: what is read, or the reader's giving up recovered; and the readers of numbers.
-/
import Derived.Test.YtkfmmpolcjbnbaaDoorRd3
import Derived.Test.YtkfmmpolcjbnbaaDoorWk1
namespace Go.Proofs.YtkfmmpolcjbnbaaDoor
open Pl Go.RowKit

/-- Bytes of one's own that are told. -/
structure Told (w w' : World) (a : Option Addr) (len cap : Nat) (zs : List Int) : Prop where
  row : Row w' a len zs
  le : len ≤ cap
  max : cap ≤ maxLen
  own : 0 < len → ∃ g, a = some ⟨g, 0, none⟩ ∧ w.heap.size ≤ g ∧ ∀ i, i < len → w'.frozen? ⟨g, i, none⟩ = false

/-- How a reader ends: with these bytes, or giving up. -/
def ReadsTo (w : World) : Option (List Int) → Ending → World → Prop
  | some zs, e, w' => (∃ a len cap, e = .returned (.slice a len cap) ∧ Told w w' a len cap zs) ∧ Below w.heap.size w w'
  | none, e, w' => e = .panicked bad ∧ Below w.heap.size w w'

/-- What Value tells of it. -/
def ValueTo (w : World) : Option (List Int) → Ending → World → Prop
  | some zs, e, w' => (∃ a len cap, e = .returned (.tuple #[.slice a len cap, .int .i64 0]) ∧ Told w w' a len cap zs) ∧ Below w.heap.size w w'
  | none, e, w' => e = .returned (.tuple #[.slice none 0 0, .int .i64 12]) ∧ Below w.heap.size w w'

theorem catch_panicking (p q : Addr) (x y : Value) (w : World) (hp : w.cell? p = some x) (zp : w.frozen? p = false) (hq : w.cell? q = some y) (zq : w.frozen? q = false) (ne : p ≠ q) :
    CallsD Tryd.prog 17 #[.pointer (some p), .pointer (some q)] (.panicking bad) w fun e u' w' =>
      e = .returned (.tuple #[]) ∧ (∃ v, u' = .panicking [{ v := v, recovered := true }]) ∧ w' = (w.setCell p (.slice none 0 0)).setCell q (.int .i64 12) := by
  have hq' : (w.setCell p (.slice none 0 0)).cell? q = some y := (World.cell?_setCell_other _ _ _ _ ne).trans hq
  have zq' : (w.setCell p (.slice none 0 0)).frozen? q = false := by rw [World.frozen?_setCell]; exact zq
  refine callsD_of_wpS Tryd.func17 rfl fun c₀ cs hu => ?_
  apply wpS_seq
  apply wpS_region
  simp [wpOpsS, go_sem, recoverD, hu, bad, Tryd.ntmps17, Exit.thenS]
  refine wpS_cond (t := true) (by simp [Act.eval, Array.replicate]) ?_
  simp only [if_true]
  apply wpS_region
  simp [wpOpsS, go_sem, hp, zp, hq', zq', bodyPostS, results, Tryd.results17]

set_option maxHeartbeats 4000000 in
set_option maxRecDepth 100000 in
theorem value_of (t : Int) (s : ByteArray) (o : Option (List Int)) (w : World) (hk : kindN t ≠ 0) (hT : Tabs w)
    (hR : ∀ W : World, Tabs W → Calls Tryd.prog 18 #[.int .u8 (kindN t), .int .i64 (sizeN t), .string s] W (ReadsTo W o)) :
    Calls Tryd.prog 8 #[.int .u8 t, .string s] w (ValueTo w o) := by
  have hmf : ∀ (fn : Fn) (first cap : Array Value) (w : World), (Instr.makeFunc fn first cap).run Tryd.prog w = .ok (.func fn first cap) w := fun _ _ _ _ => rfl
  have b0 : (kindN t == 0) = false := by simp [hk]
  have HR : Hid (∀ W : World, Tabs W → Calls Tryd.prog 18 #[.int .u8 (kindN t), .int .i64 (sizeN t), .string s] W (ReadsTo W o)) := hR
  have BA : Below w.heap.size w ((w.alloc (.cells #[.slice none 0 0] 22)).alloc (.cells #[.int .i64 0] 24)) := Below.al (Below.al (Below.refl _ _) _) _
  have ne : (⟨w.heap.size, 0, none⟩ : Addr) ≠ ⟨w.heap.size + 1, 0, none⟩ := fun h => by have := congrArg Addr.block h; simp at this
  clear hR hk
  cases o with
  | some zs =>
    go_enter_defers Tryd.func8, Tryd.ntmps8
    go_wp2_with fail
    refine (kindOf_any _ _).mono ?_
    rintro e w ⟨rfl, rfl⟩
    go_wp2_with fail
    refine (HR.out _ (hT.next BA)).mono ?_
    rintro e w1 ⟨⟨a, len, cap, rfl, ht⟩, hb⟩
    have B1 : Below w.heap.size w w1 := Below.andThen BA hb
    have c0 : w1.cell? ⟨w.heap.size, 0, none⟩ = some (.slice none 0 0) := (hb.cell (by simp <;> omega)).trans (by simp [go_sem])
    have c1 : w1.cell? ⟨w.heap.size + 1, 0, none⟩ = some (.int .i64 0) := (hb.cell (by simp <;> omega)).trans (by simp [go_sem])
    have z0 : w1.frozen? ⟨w.heap.size, 0, none⟩ = false := (hb.frozen (by simp <;> omega)).trans (by simp [go_sem])
    have z1 : w1.frozen? ⟨w.heap.size + 1, 0, none⟩ = false := (hb.frozen (by simp <;> omega)).trans (by simp [go_sem])
    have HT : Hid (Told ((w.alloc (.cells #[.slice none 0 0] 22)).alloc (.cells #[.int .i64 0] 24)) w1 a len cap zs) := ht
    clear hb ht BA hT
    go_wp2_with fail
    refine leaves_cons (f := 17) (args := #[.pointer (some ⟨w.heap.size, 0, none⟩), .pointer (some ⟨w.heap.size + 1, 0, none⟩)]) (by simp) (by simp [go_sem]) ?_
    refine (catch_idle _ _ _).mono ?_
    rintro e u' w'' ⟨rfl, rfl, rfl⟩
    obtain ⟨W2, HW⟩ : ∃ W2, Hid ((w1.setCell ⟨w.heap.size, 0, none⟩ (.slice a len cap)).setCell ⟨w.heap.size + 1, 0, none⟩ (.int .i64 0) = W2) := ⟨_, rfl⟩
    have q0 : W2.cell? ⟨w.heap.size, 0, none⟩ = some (.slice a len cap) := by
      rw [← HW.out, World.cell?_setCell_other _ _ _ _ ne.symm]; exact World.cell?_setCell_same _ _ _ c0
    have q1 : W2.cell? ⟨w.heap.size + 1, 0, none⟩ = some (.int .i64 0) := by
      rw [← HW.out]; exact World.cell?_setCell_same _ _ _ ((World.cell?_setCell_other _ _ _ _ ne).trans c1)
    have B2 : Below w.heap.size w W2 := by
      rw [← HW.out]; exact (B1.setCell (by exact Nat.le_refl _) _).setCell (by exact Nat.le_succ _) _
    have T2 : Told w W2 a len cap zs := by
      obtain ⟨hr, hl, hm, ho⟩ := HT.out
      refine ⟨⟨hr.size, hr.oct, fun hp => ?_⟩, hl, hm, fun hp => ?_⟩
      · obtain ⟨g, rfl, hg, _⟩ := ho hp
        obtain ⟨b, off, e, hc⟩ := hr.at_ hp
        cases e
        have hg' : w.heap.size + 1 < g := by simp at hg; omega
        refine ⟨_, 0, rfl, fun i hi => ?_⟩
        rw [← HW.out, World.cell?_setCell_other _ _ _ _ (fun h => by have := congrArg Addr.block h; simp at this; omega), World.cell?_setCell_other _ _ _ _ (fun h => by have := congrArg Addr.block h; simp at this; omega)]
        exact hc i hi
      · obtain ⟨g, e, hg, hz⟩ := ho hp
        refine ⟨g, e, by simp at hg; omega, fun i hi => ?_⟩
        rw [← HW.out, World.frozen?_setCell, World.frozen?_setCell]
        exact hz i hi
    rw [HW.out]
    simp [Leaves, settle, results, Tryd.results8, go_sem, q0, q1]
    exact ⟨⟨_, _, _, rfl, T2⟩, B2⟩
  | none =>
    go_enter_defers Tryd.func8, Tryd.ntmps8
    go_wp2_with fail
    refine (kindOf_any _ _).mono ?_
    rintro e w ⟨rfl, rfl⟩
    go_wp2_with fail
    refine (HR.out _ (hT.next BA)).mono ?_
    rintro e w1 ⟨rfl, hb⟩
    have B1 : Below w.heap.size w w1 := Below.andThen BA hb
    have c0 : w1.cell? ⟨w.heap.size, 0, none⟩ = some (.slice none 0 0) := (hb.cell (by simp <;> omega)).trans (by simp [go_sem])
    have c1 : w1.cell? ⟨w.heap.size + 1, 0, none⟩ = some (.int .i64 0) := (hb.cell (by simp <;> omega)).trans (by simp [go_sem])
    have z0 : w1.frozen? ⟨w.heap.size, 0, none⟩ = false := (hb.frozen (by simp <;> omega)).trans (by simp [go_sem])
    have z1 : w1.frozen? ⟨w.heap.size + 1, 0, none⟩ = false := (hb.frozen (by simp <;> omega)).trans (by simp [go_sem])
    clear hb BA hT
    go_wp2_with fail
    refine leaves_cons (f := 17) (args := #[.pointer (some ⟨w.heap.size, 0, none⟩), .pointer (some ⟨w.heap.size + 1, 0, none⟩)]) (by simp) (by simp [go_sem]) ?_
    refine (catch_panicking _ _ _ _ _ c0 z0 c1 z1 ne).mono ?_
    rintro e u' w'' ⟨rfl, ⟨v, rfl⟩, rfl⟩
    obtain ⟨W2, HW⟩ : ∃ W2, Hid ((w1.setCell ⟨w.heap.size, 0, none⟩ (.slice none 0 0)).setCell ⟨w.heap.size + 1, 0, none⟩ (.int .i64 12) = W2) := ⟨_, rfl⟩
    have q0 : W2.cell? ⟨w.heap.size, 0, none⟩ = some (.slice none 0 0) := by
      rw [← HW.out, World.cell?_setCell_other _ _ _ _ ne.symm]; exact World.cell?_setCell_same _ _ _ c0
    have q1 : W2.cell? ⟨w.heap.size + 1, 0, none⟩ = some (.int .i64 12) := by
      rw [← HW.out]; exact World.cell?_setCell_same _ _ _ ((World.cell?_setCell_other _ _ _ _ ne).trans c1)
    have B2 : Below w.heap.size w W2 := by
      rw [← HW.out]; exact (B1.setCell (by exact Nat.le_refl _) _).setCell (by exact Nat.le_succ _) _
    rw [HW.out]
    simp [Leaves, settle, results, Tryd.results8, go_sem, q0, q1]
    exact ⟨rfl, B2⟩

/-- The bytes of a number that is read. -/
def intV (t : Int) (l : List UInt8) : Option (List Int) :=
  (if kindN t = 2 then sgnV (2 ^ (8 * (sizeN t).toNat - 1)) (2 ^ (8 * (sizeN t).toNat - 1) - 1) l else unsV (2 ^ (8 * (sizeN t).toNat) - 1) l).map fun n => bytesL (n : Int) (sizeN t).toNat

theorem reads_bytes {w w1 w2 : World} {v : Value} {n : Nat} {zs : List Int} (hb : Below w.heap.size w w1) (hf : Fresh w1 w2 v n zs) (hn : n ≤ 8) : ReadsTo w (some zs) (.returned v) w2 := by
  obtain ⟨hr, rfl, hz, hb2⟩ := hf
  exact ⟨⟨_, _, _, rfl, ⟨hr, Nat.le_refl _, by unfold maxLen; omega, fun _ => ⟨_, rfl, hb.size, hz⟩⟩⟩, Below.andThen hb hb2⟩
#print axioms value_of
end Go.Proofs.YtkfmmpolcjbnbaaDoor
