/-
  The walks of slices.Clone of bytes, of slices.ContainsFunc with the test of a byte that was written.
-/
import Derived.Test.YtgpbmccjcjoijaaJ1
import Derived.Lib.SlicesMore
namespace Go.Proofs.Ytgpbmccjcjoijaa
open Go.RowKit

/-- A slice of bytes, all its own and not frozen. -/
structure Own (w : World) (g len : Nat) (zs : List Int) : Prop where
  size : zs.length = len
  oct : Oct zs
  cell : ∀ i, i < len → w.cell? ⟨g, i, none⟩ = some (.int .u8 (zs.getD i 0)) ∧ w.frozen? ⟨g, i, none⟩ = false

theorem Own.row {w : World} {g len : Nat} {zs : List Int} (h : Own w g len zs) : Row w (some ⟨g, 0, none⟩) len zs :=
  ⟨h.size, h.oct, fun _ => ⟨g, 0, rfl, fun i hi => by rw [Nat.zero_add]; exact (h.cell i hi).1⟩⟩

theorem append_new_run (ty : TypeId) (g : Nat) (a : Option Addr) (len cap : Nat) (zs : List Int) (w : World) (hr : Row w a len zs) (hp : 0 < len) (h : len ≤ 16777216) :
    ∃ cap' w', (Builtin.append_ #[33, 33] ty #[.slice (some ⟨g, 0, none⟩) 0 0, .slice a len cap]).run Try.prog w = .ok (.slice (some ⟨w.heap.size, 0, none⟩) len cap') w' ∧ len ≤ cap' ∧ cap' ≤ maxLen ∧ Own w' w.heap.size len zs ∧ Below w.heap.size w w' := by
  obtain ⟨i, hi, hz0, hz1, hz2⟩ := info_parts info8
  obtain ⟨b, off, rfl, hc⟩ := hr.at_ hp
  have hn : ∀ j u, (zs.map (Value.int .u8))[j]? = some u → w.cell? ((⟨b, off, none⟩ : Addr).add j) = some u := by
    intro j u hu
    rw [List.getElem?_map] at hu
    by_cases hj : j < zs.length
    · rw [List.getElem?_eq_getElem hj] at hu
      have e := hc j (by rw [← hr.size]; exact hj)
      rw [show (⟨b, off, none⟩ : Addr).add j = ⟨b, off + j, none⟩ from by simp [Addr.add], e]
      simpa [List.getD_eq_getElem?_getD, hj] using hu
    · rw [List.getElem?_eq_none (by omega)] at hu
      simp at hu
  have hs : Src Try.prog i.size 33 (.slice (some ⟨b, off, none⟩) len cap) len (zs.map (Value.int .u8)) w :=
    Src.ofSlice w Try.underlying33 _ len cap _ (by rw [List.length_map, hr.size, hz1, Nat.mul_one]) hn (fun u hu => by obtain ⟨_, _, rfl⟩ := List.mem_map.1 hu; rfl)
  have hrun := run_append_grow_src (P := Try.prog) w 33 33 ty 5 i (.int .u8 0) Try.underlying33 hi hz0 (some ⟨g, 0, none⟩) 0 0 [] (run_firstCells_some w.drew i.size 0 _ 0 0 [] (by simp) (fun j u hu => by simp at hu)) _ len _ hs (by omega) (by omega)
    (growslice_fits (by omega) (by rw [hz2]; omega))
  rw [Nat.zero_add] at hrun
  refine ⟨_, _, hrun, grownCap_ge w len 0 _, grownCap_le_maxLen w len 0 _ (by unfold maxLen; omega), ⟨hr.size, hr.oct, fun j hj => ⟨?_, World.frozen?_alloc_new w.drew _ _ j⟩⟩, Below.al (Below.drew (Below.refl _ _)) _⟩
  have e1 : (w.drew.alloc (.cells ((([] : List Value) ++ zs.map (Value.int .u8)).toArray ++ Builtin.zeroCells (Value.int .u8 0).cells (grownCap w len 0 5 - len)) 5)).cell? ⟨w.heap.size, j, none⟩ = _ := World.cell?_alloc_new w.drew _ _ j
  rw [e1, Array.getElem?_append_left (by simp [hr.size, hj]), List.getElem?_toArray]
  simp [List.getD_eq_getElem?_getD, hr.size, hj]

theorem wpList_append_new {w : World} {ops : Array Oper} {rest : List Oper} {o : Oper} {c : Act} {Q : Exit → Act → World → Prop} (hgd : o.guard = none) (s x : Operand)
    (ho : o.op = .call { callee := .builtin .append, args := #[s, x], argTypes := #[33, 33] }) (g : Nat) (hs : c.eval s = .slice (some ⟨g, 0, none⟩) 0 0)
    (a : Option Addr) (len cap : Nat) (zs : List Int) (hx : c.eval x = .slice a len cap) (hr : Row w a len zs) (hp : 0 < len) (hl : len ≤ 16777216)
    (h : ∀ cap' w', len ≤ cap' → cap' ≤ maxLen → Own w' w.heap.size len zs → Below w.heap.size w w' → wpList Try.prog ops Q rest (c.put o.dst (.slice (some ⟨w.heap.size, 0, none⟩) len cap')) w') : wpList Try.prog ops Q (o :: rest) c w := by
  refine wpList_plain hgd fun K hK => ?_
  obtain ⟨cap', w', hrun, h1, h2, h3, h4⟩ := append_new_run o.type g a len cap zs w hr hp hl
  unfold Oper.wp
  simp [execOp, ho, resolve, invoke, builtin, hs, hx, hrun, Result.andThen]
  exact hK _ _ (h cap' w' h1 h2 h3 h4)


theorem append_zero_run (ty : TypeId) (g : Nat) (a : Option Addr) (cap : Nat) (w : World) :
    (Builtin.append_ #[33, 33] ty #[.slice (some ⟨g, 0, none⟩) 0 0, .slice a 0 cap]).run Try.prog w = .ok (.slice (some ⟨g, 0, none⟩) 0 0) w := by
  obtain ⟨i, hi, hz0, hz1, hz2⟩ := info_parts info8
  have hs : Src Try.prog i.size 33 (.slice a 0 cap) 0 [] w := by
    cases a with
    | none => exact Src.ofNil w Try.underlying33 cap
    | some x => exact Src.ofSlice w Try.underlying33 x 0 cap [] (by simp) (fun j u hu => by simp at hu) (fun u hu => by simp at hu)
  exact run_append_nothing (P := Try.prog) w 33 33 ty 5 i Try.underlying33 hi (some ⟨g, 0, none⟩) 0 0 (Nat.le_refl _) _ hs

theorem wpList_append_zero {w : World} {ops : Array Oper} {rest : List Oper} {o : Oper} {c : Act} {Q : Exit → Act → World → Prop} (hgd : o.guard = none) (s x : Operand)
    (ho : o.op = .call { callee := .builtin .append, args := #[s, x], argTypes := #[33, 33] }) (g : Nat) (hs : c.eval s = .slice (some ⟨g, 0, none⟩) 0 0)
    (a : Option Addr) (cap : Nat) (hx : c.eval x = .slice a 0 cap)
    (h : wpList Try.prog ops Q rest (c.put o.dst (.slice (some ⟨g, 0, none⟩) 0 0)) w) : wpList Try.prog ops Q (o :: rest) c w := by
  refine wpList_plain hgd fun K hK => ?_
  have hrun := append_zero_run o.type g a cap w
  unfold Oper.wp
  simp [execOp, ho, resolve, invoke, builtin, hs, hx, hrun, Result.andThen]
  exact hK _ _ h

set_option maxRecDepth 100000 in
theorem clone8_any (a : Option Addr) (len cap : Nat) (zs : List Int) (w : World) (hr : Row w a len zs) (hl : len ≤ 16777216) :
    Calls Try.prog 51 #[.slice a len cap] w fun e w' => (∃ a' cap', e = .returned (.slice a' len cap') ∧ Told w w' a' len cap' zs) ∧ Below w.heap.size w w' := by
  have q22 : ∀ (w : World) (a : Option Addr) (n c n' c' : Nat), (binOp .eql 33 (.slice a n c) (.slice none n' c')).run Try.prog w = .ok (.bool a.isNone) w := fun w a n c n' c' => Lib.run_eql_slice_nil w _ _ a n c n' c' Try.underlying33
  rcases Nat.eq_zero_or_pos len with h0 | hp
  · subst h0
    have hz := hr.nil
    subst hz
    cases a with
    | none =>
      go_enter Try.func51, Try.ntmps51
      go_wp2_with fail
      go_ret
      exact ⟨⟨_, _, rfl, row_nil _, Nat.le_refl _, by decide, fun h => absurd h (by decide)⟩, Below.refl _ _⟩
    | some x =>
      go_enter Try.func51, Try.ntmps51
      go_wp2_with (at_builtin; refine wpList_append_zero rfl _ _ rfl _ rfl _ _ rfl ?_)
      go_ret
      exact ⟨⟨_, _, rfl, ⟨rfl, oct_nil, fun h => absurd h (by decide)⟩, Nat.le_refl _, by decide, fun h => absurd h (by decide)⟩, Below.al (Below.refl _ _) _⟩
  · obtain ⟨b, off, rfl, _⟩ := hr.at_ hp
    have R : Row (w.alloc (.cells #[] 5)) (some ⟨b, off, none⟩) len zs := hr.next (Below.al (Below.refl _ _) _)
    clear hr
    go_enter Try.func51, Try.ntmps51
    go_wp2_with (at_builtin; refine wpList_append_new rfl _ _ rfl _ rfl _ _ _ zs rfl R hp hl ?_)
    intro cap' w' h1 h2 h3 h4
    go_wp2_with fail
    go_ret
    exact ⟨⟨_, _, rfl, h3.row, h1, h2, fun _ => ⟨_, rfl, by simp, fun i hi => (h3.cell i hi).2⟩⟩, (Below.al (Below.refl _ _) _).trans (h4.mono (Nat.le_succ _))⟩

set_option maxHeartbeats 400000 in
theorem not255_any (x : Int) (w : World) : Calls Try.prog 55 #[.int .u8 x] w fun e w' => e = .returned (.bool (x != 255)) ∧ w' = w := by
  go_enter Try.func55, Try.ntmps55
  go_wp2_with fail
  go_ret
  exact ⟨rfl, rfl⟩

theorem blank_not {l : List Int} {k : Nat} (h : l.getD k 0 ≠ 255) (hk : k < l.length) : blank l = false := by
  rw [Bool.eq_false_iff]
  intro hb
  exact h (blank_iff.1 hb _ (by simp [List.getD_eq_getElem?_getD, hk]))
theorem blank_all {l : List Int} (h : ∀ i, i < l.length → l.getD i 0 = 255) : blank l = true := by
  rw [blank_iff]
  intro x hx
  obtain ⟨i, hi, rfl⟩ := List.getElem_of_mem hx
  have := h i hi
  simpa [List.getD_eq_getElem?_getD, hi] using this

set_option maxHeartbeats 800000 in
theorem indexF_any (a : Option Addr) (len cap : Nat) (l : List Int) (w : World) (hr : Row w a len l) (hl : len ≤ 1000000000) :
    Calls Try.prog 64 #[.slice a len cap, .func (.func 55) #[] #[]] w fun e w' => (∃ z : Int, e = .returned (.int .i64 z) ∧ decide (0 ≤ z) = !blank l) ∧ w' = w := by
  have hl' : (len : Int) ≤ 1000000000 := by omega
  have hz := hr.size
  go_enter Try.func64, Try.ntmps64
  go_wp2_with fail
  go_loop [8] (fun i => ∃ k : Nat, k ≤ len ∧ i = .int .i64 k ∧ ∀ j, j < k → l.getD j 0 = 255) (fun i => len - (intOf i).toNat)
  case atStart => exact ⟨0, by omega, rfl, fun j hj => absurd hj (by omega)⟩
  case round =>
    obtain ⟨k, hk, rfl, hall⟩ := hrel
    have HA : Hid (∀ j, j < k → l.getD j 0 = 255) := hall
    clear hall
    by_cases hlt : k < len
    · obtain ⟨b, off, rfl, hcA⟩ := hr.at_ (by omega)
      have hc := hcA k hlt
      clear hcA
      have HB : Hid (l.getD k 0 ≠ 255 → blank l = false) := fun h => blank_not h (by omega)
      have HC : Hid (l.getD k 0 = 255 → ∀ j, j < k + 1 → l.getD j 0 = 255) := fun h j hj => by
        by_cases e : j = k
        · rw [e]; exact h
        · exact HA.out j (by omega)
      generalize l.getD k 0 = x at *
      have hT := not255_any x w
      have g1 : (k : Int) < len := by omega
      clear hr
      by_cases hx : x = 255
      · have e := HC.out hx
        have HE : Hid (∀ j, j < k + 1 → l.getD j 0 = 255) := e
        subst hx
        clear e HB HC HA hz
        go_wp2_with fail
        with_reducible refine hT.mono ?_
        rintro e w ⟨rfl, rfl⟩
        clear hT
        go_wp2_with fail
        go_round
        case rel => exact ⟨k + 1, by omega, by go_num, HE.out⟩
        case measure => simp [intOf]; omega
      · have HE : Hid (blank l = false) := HB.out hx
        have gx : (x != 255) = true := by simp [hx]
        rw [gx] at hT
        clear HB HC HA hz gx hx
        go_wp2_with fail
        with_reducible refine hT.mono ?_
        rintro e w ⟨rfl, rfl⟩
        clear hT
        go_wp2_with fail
        go_ret
        exact ⟨⟨_, rfl, by rw [HE.out]; simp⟩, rfl⟩
    · obtain rfl : k = len := by omega
      have HE : Hid (blank l = true) := blank_all (fun i hi => HA.out i (by omega))
      go_wp2_with fail
      go_ret
      exact ⟨⟨_, rfl, by rw [HE.out]; decide⟩, rfl⟩

set_option maxHeartbeats 800000 in
theorem contains_any (a : Option Addr) (len cap : Nat) (l : List Int) (w : World) (hr : Row w a len l) (hl : len ≤ 1000000000) :
    Calls Try.prog 54 #[.slice a len cap, .func (.func 55) #[] #[]] w fun e w' => e = .returned (.bool (!blank l)) ∧ w' = w := by
  have hT := indexF_any a len cap l w hr hl
  clear hr hl
  go_enter Try.func54, Try.ntmps54
  go_wp2_with fail
  with_reducible refine hT.mono ?_
  rintro e w ⟨⟨z, rfl, hz⟩, rfl⟩
  clear hT
  go_wp2_with fail
  go_ret
  exact ⟨rfl, rfl⟩
#print axioms clone8_any
#print axioms contains_any
end Go.Proofs.Ytgpbmccjcjoijaa
