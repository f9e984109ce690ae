/-
  The walk of a sector's bytes.
-/
import Derived.Test.YtgpbmccjcjoijaaFd
import Derived.Deep.LoopGhost
namespace Go.Proofs.Ytgpbmccjcjoijaa
open Go.RowKit

/-- Bytes that are told, in memory of their own. -/
structure Told (w w' : World) (a : Option Addr) (len cap : Nat) (zs : List Int) : Prop where
  row : Row w' a len zs
  le : len ≤ cap
  max : cap ≤ maxLen
  own : 0 < len → ∃ g, a = some ⟨g, 0, none⟩ ∧ w.heap.size ≤ g ∧ ∀ i, i < len → w'.frozen? ⟨g, i, none⟩ = false
theorem own_told {w w' : World} {v : Value} {k : Nat} {zs : List Int} (h : w'.ownsRow w.heap.size 5 1 v k (zs.map (Value.int .u8))) (ho : Oct zs) (hl : zs.length = k) :
    ∃ a cap, v = .slice a k cap ∧ Told w w' a k cap zs := by
  rcases h.2 with ⟨rfl, rfl⟩ | ⟨g, cap, cur, rfl, hg, hc, hn, hm, hs, ht⟩
  · have : zs = [] := List.eq_nil_of_length_eq_zero hl
    subst this
    exact ⟨none, 0, rfl, row_nil w', Nat.le_refl _, by decide, fun h => absurd h (by decide)⟩
  · refine ⟨_, cap, rfl, ⟨hl, ho, fun _ => ⟨g, 0, rfl, fun i hi => ?_⟩⟩, hn, hm, fun _ => ⟨g, rfl, hg, fun i _ => ?_⟩⟩
    · have := h.cellAt i (by omega)
      rw [Nat.zero_add, this]
      simp [List.getD_eq_getElem?_getD, hl, hi]
    · unfold World.frozen?
      rw [hc]
      simp
theorem own_next {w w' : World} {B k : Nat} {v : Value} {xs : List Value} (h : w.ownsRow B 5 1 v k xs) (hb : Below w.heap.size w w') : w'.ownsRow B 5 1 v k xs := by
  refine h.kept (row := none) ⟨hb.os, hb.tape, hb.output, hb.size, fun k hk _ => hb.block k hk⟩ ?_
  cases hv : v.ownBlock with
  | none => exact .inl rfl
  | some x => exact .inr (by simp)

/-- A word of a row. -/
abbrev wdC (l : List Int) (o : Nat) : Array Value := #[.int .u8 (l.getD o 0), .int .u8 (l.getD (o + 1) 0), .int .u8 (l.getD (o + 2) 0), .int .u8 (l.getD (o + 3) 0)]
theorem wd_take (l : List Int) (o : Nat) (h : o + 4 ≤ l.length) : (l.drop o).take 4 = [l.getD o 0, l.getD (o + 1) 0, l.getD (o + 2) 0, l.getD (o + 3) 0] := by
  apply List.ext_getElem?
  intro j
  rw [List.getElem?_take]
  have g : ∀ k, o + k < l.length → l[o + k]? = some (l.getD (o + k) 0) := fun k hk => by rw [List.getD_eq_getElem?_getD, List.getElem?_eq_getElem hk]; rfl
  by_cases hj : j < 4
  · rw [if_pos hj, List.getElem?_drop]
    have : j = 0 ∨ j = 1 ∨ j = 2 ∨ j = 3 := by omega
    rcases this with rfl | rfl | rfl | rfl
    · exact g 0 (by omega)
    · exact g 1 (by omega)
    · exact g 2 (by omega)
    · exact g 3 (by omega)
  · rw [if_neg hj, List.getElem?_eq_none (by simp; omega)]
theorem take_next (l : List Int) (i : Nat) (h : 4 * i + 4 ≤ l.length) : l.take (4 * (i + 1)) = l.take (4 * i) ++ [l.getD (4 * i) 0, l.getD (4 * i + 1) 0, l.getD (4 * i + 2) 0, l.getD (4 * i + 3) 0] := by
  rw [← wd_take l _ h, show 4 * (i + 1) = 4 * i + 4 from by omega, List.take_add]
theorem idx57 (l : List Int) (hl : l.length = 1024) (i : Nat) (hi : i < 256) (w : World) :
    (Instr.index 92 (.agg (l.map (Value.int .u8)).toArray) (.int .i64 i)).run Try.prog w = .ok (.agg (wdC l (4 * i))) w := by
  obtain ⟨i0, hq, _, hz1, _⟩ := info_parts info32
  simp [Instr.index, run_underlying Try.underlying92, asIntOf, hi, part, sizeOf, typeInfo, hq, hz1]
  rw [← List.map_drop, ← List.map_take, Nat.mul_comm, wd_take l _ (by omega)]
  simp

set_option linter.unusedSimpArgs false in
set_option maxHeartbeats 4000000 in
set_option maxRecDepth 100000 in
theorem bytes_any (l : List Int) (hl : l.length = 1024) (ho : Oct l) (w : World) :
    Calls Try.prog 60 #[.agg (l.map (Value.int .u8)).toArray] w fun e w' => (∃ a cap, e = .returned (.slice a 1024 cap) ∧ Told w w' a 1024 cap l) ∧ Below w.heap.size w w' := by
  obtain ⟨i0, hi, hz0, hz1, hz2⟩ := info_parts info8
  have IX : Hid (∀ i : Nat, i < 256 → ∀ w : World, (Instr.index 92 (.agg (l.map (Value.int .u8)).toArray) (.int .i64 i)).run Try.prog w = .ok (.agg (wdC l (4 * i))) w) := fun i h w => idx57 l hl i h w
  have LD : Hid (∀ w : World, (loadVar 92 ⟨w.heap.size, 0, none⟩).run Try.prog (w.alloc (.cells (l.map (Value.int .u8)).toArray 92)) = .ok (.agg (l.map (Value.int .u8)).toArray) (w.alloc (.cells (l.map (Value.int .u8)).toArray 92))) := fun w => run_loadVar_new (P := Try.prog) w 92 _ _ _ Try.underlying92 (by simp only [List.size_toArray, List.length_map, hl]; exact size57)
  have TN : Hid (∀ i : Nat, i < 256 → l.take (4 * (i + 1)) = l.take (4 * i) ++ [l.getD (4 * i) 0, l.getD (4 * i + 1) 0, l.getD (4 * i + 2) 0, l.getD (4 * i + 3) 0]) := fun i h => take_next l i (by omega)
  have CC : Hid ((l.map (Value.int .u8)).toArray.size = 1024) := by show _ = _; simp [hl]
  obtain ⟨C, HC⟩ : ∃ C, Hid (C = (l.map (Value.int .u8)).toArray) := ⟨_, rfl⟩
  rw [← HC.out] at IX LD CC ⊢
  clear HC
  go_enter Try.func60, Try.ntmps60
  go_wp2_with (at_make; refine wpList_make_own _ rfl _ _ 33 rfl w.heap.size 5 i0 (.int .u8 0) 1 Try.underlying33 hi hz0 hz1 .i64 .i64 1024 1024 rfl rfl rfl (by rw [hz2]; decide) (by decide) (by simp) ?_)
  intro w1 hown hgrow
  have hb1 : Below w.heap.size w w1 := (Below.al (Below.refl _ _) _).grown hgrow (by simp) (fun j hj => by cases hj)
  have H := run_loadVar_row (P := Try.prog) w1 w.heap.size 92 92 C (0, 0) _ ((hgrow.block w.heap.size (by simp) (by simp)).trans (heap_alloc_last w _)) Try.underlying92 rfl (by rw [CC.out]; exact size57)
  have OWN : Hid (w1.ownsRow w.heap.size 5 1 (.slice (some ⟨w.heap.size + 1, 0, none⟩) 0 1024) 0 []) := hown
  clear hown hgrow LD CC
  go_wp2_with (refine wpList_load_by rfl 92 (.tmp 1) rfl _ _ rfl H ?_)
  clear H
  go_loopw [3, 8] (fun v u wr => ∃ i : Nat, i ≤ 256 ∧ u = .int .i64 i ∧ Below w.heap.size w wr ∧ wr.ownsRow w.heap.size 5 1 v (4 * i) ((l.take (4 * i)).map (Value.int .u8)))
    (fun _ u _ => 256 - (intOf u).toNat)
  case atStart =>
    exact ⟨0, by omega, rfl, hb1, OWN.out⟩
  case round =>
    clear OWN hb1
    obtain ⟨i, hi6, rfl, hb, hown⟩ := hrel
    have OWN : Hid (wr.ownsRow w.heap.size 5 1 u3 (4 * i) ((l.take (4 * i)).map (Value.int .u8))) := hown
    clear hown
    by_cases h : i < 256
    · have g : (i : Int) < 256 := by omega
      have H : ∀ w : World, (Instr.index 92 (.agg C) (.int .i64 i)).run Try.prog w = .ok (.agg #[.int .u8 (l.getD (4 * i) 0), .int .u8 (l.getD (4 * i + 1) 0), .int .u8 (l.getD (4 * i + 2) 0), .int .u8 (l.getD (4 * i + 3) 0)]) w := IX.out i h
      have HT := TN.out i h
      clear IX TN
      generalize l.getD (4 * i) 0 = q0 at *
      generalize l.getD (4 * i + 1) 0 = q1 at *
      generalize l.getD (4 * i + 2) 0 = q2 at *
      generalize l.getD (4 * i + 3) 0 = q3 at *
      have HT2 : Hid _ := HT
      clear HT
      have ST := run_storeVar_new (P := Try.prog) wr 53 #[.int .u8 0, .int .u8 0, .int .u8 0, .int .u8 0] #[.int .u8 q0, .int .u8 q1, .int .u8 q2, .int .u8 q3] size32 rfl (by simp [Value.oneCell'])
      have NW : ∀ j u, [Value.int .u8 q0, .int .u8 q1, .int .u8 q2, .int .u8 q3][j]? = some u → (wr.alloc (.cells #[.int .u8 q0, .int .u8 q1, .int .u8 q2, .int .u8 q3] 53)).cell? ((⟨wr.heap.size, 0, none⟩ : Addr).add j) = some u := fun j u hj => by
        rw [Addr.add_lit, Nat.zero_add, World.cell?_alloc_new, ← hj, List.getElem?_toArray]
      go_wp2_with (first | refine wpList_store_by rfl 53 (.tmp 5) (.tmp 10) rfl _ _ rfl rfl ST ?_ | (at_builtin; refine wpList_append_own _ rfl _ _ 33 rfl w.heap.size 5 i0 (.int .u8 0) 1 1 Try.underlying33 hi hz0 hz1 hz2 rfl (by decide) _ _ _ rfl (OWN.out.alloc _) ⟨wr.heap.size, 0, none⟩ 4 4 [.int .u8 q0, .int .u8 q1, .int .u8 q2, .int .u8 q3] rfl rfl NW (fun u hu => by simp at hu; rcases hu with rfl | rfl | rfl | rfl <;> rfl) (by unfold maxLen; omega) (by omega) (by have := hb.size; simp; omega) ?_))
      intro v' w2 hown' hgrow _
      have hown2 : w2.ownsRow w.heap.size 5 1 v' (4 * i + 4) (((l.take (4 * i)) ++ [q0, q1, q2, q3]).map (Value.int .u8)) := by rw [List.map_append, List.map_take]; exact hown'
      have hb2 : Below w.heap.size w w2 := (Below.al hb _).grown hgrow (by have := hb.size; simp; omega) (fun j hj => (OWN.out.lt j hj).1)
      rw [← HT2.out] at hown2
      have OWN2 : Hid (w2.ownsRow w.heap.size 5 1 v' (4 * (i + 1)) ((l.take (4 * (i + 1))).map (Value.int .u8))) := hown2
      clear hown' hown2 hgrow ST
      go_wp2_with fail
      exact ⟨⟨i + 1, by omega, by go_num, hb2, OWN2.out⟩, by simp [intOf]; omega⟩
    · obtain rfl : i = 256 := by omega
      have e : l.take (4 * 256) = l := List.take_of_length_le (by omega)
      have O2 := OWN.out
      rw [e] at O2
      obtain ⟨a, cap, rfl, ht⟩ := own_told O2 ho hl
      clear IX TN e O2 OWN
      go_wp2_with fail
      go_ret
      exact ⟨⟨_, _, rfl, ht⟩, hb⟩
#print axioms bytes_any
end Go.Proofs.Ytgpbmccjcjoijaa
