/-
  What waits on a bus, in memory; Len.
-/
import Derived.Test.YtndlpjfofjikeaaBp
import Derived.Test.YtndlpjfofjikeaaMk
import Derived.Deep.RegionHeld3
import Derived.WalkSmall
namespace Go.Proofs.Ytndlpjfofjikeaa
open Go.RowKit

/-- A frame that waits. -/
structure Sn where
  nd : Int
  i : Int
  n : Int
  d0 : Int
  d1 : Int
  d2 : Int
  d3 : Int
  d4 : Int
  d5 : Int
  d6 : Int
  d7 : Int
  r : Bool
  nm : Int
/-- Its cells. -/
abbrev Sn.A (x : Sn) : Array Value := #[.int .i64 x.nd, .int .u16 x.i, .int .i64 x.n, .int .u8 x.d0, .int .u8 x.d1, .int .u8 x.d2, .int .u8 x.d3, .int .u8 x.d4, .int .u8 x.d5, .int .u8 x.d6, .int .u8 x.d7, .bool x.r, .int .i64 x.nm]
def Sn.L (x : Sn) : List Value := x.A.toList
/-- The cells of a row of them. -/
def flat (l : List Sn) : List Value := l.flatMap Sn.L
theorem Sn.L_len (x : Sn) : x.L.length = 13 := rfl
theorem flat_len (l : List Sn) : (flat l).length = l.length * 13 := by
  unfold flat
  induction l with
  | nil => rfl
  | cons x l ih => rw [List.flatMap_cons, List.length_append, ih, Sn.L_len, List.length_cons]; omega
theorem flat_app (l m : List Sn) : flat (l ++ m) = flat l ++ flat m := by unfold flat; rw [List.flatMap_append]
theorem flat_one (x : Sn) : flat [x] = x.L := by unfold flat; simp
theorem flat_at (l : List Sn) (i : Nat) (x : Sn) (h : l[i]? = some x) : ((flat l).drop (i * 13)).take 13 = x.L := by
  obtain ⟨hi, he⟩ := List.getElem?_eq_some_iff.1 h
  have e : l = l.take i ++ (x :: l.drop (i + 1)) := by rw [← he, List.getElem_cons_drop, List.take_append_drop]
  have e2 : flat l = flat (l.take i) ++ (x.L ++ flat (l.drop (i + 1))) := by
    conv => lhs; rw [e]
    rw [flat_app]
    rfl
  have hl : (flat (l.take i)).length = i * 13 := by rw [flat_len, List.length_take]; congr 1; omega
  rw [e2, List.drop_append_of_le_length (by omega), List.drop_of_length_le (by omega), List.nil_append, List.take_append_of_le_length (by rw [Sn.L_len]; omega), List.take_of_length_le (by rw [Sn.L_len]; omega)]
theorem size42 : (Try.prog.info? 42).map (·.size) = some 13 := by kernel_rfl
theorem agg42 : ∀ w, (isAgg 42).run Try.prog w = .ok true w := fun w => by simp [isAgg, run_underlying Try.underlying42]

/-- What waits, in memory of its own. -/
abbrev IsL (w : World) (base : Nat) (v : Value) (l : List Sn) : Prop := w.ownsRow base 42 13 v l.length (flat l)
theorem IsL.form {w : World} {base : Nat} {v : Value} {l : List Sn} (h : IsL w base v l) : (v = .slice none 0 0 ∧ l = []) ∨ ∃ g cap cur, v = .slice (some ⟨g, 0, none⟩) l.length cap ∧ base ≤ g ∧ w.heap[g]? = some (.cells cur 42 (0, 0)) ∧ l.length ≤ cap ∧ cap ≤ maxLen ∧ cur.size = cap * 13 ∧ cur.toList.take (l.length * 13) = flat l := by
  rcases h.2 with ⟨h1, h2⟩ | ⟨g, cap, cur, hv, hg, hh, hn, hm, hs, ht⟩
  · exact .inl ⟨h1, List.eq_nil_of_length_eq_zero h2⟩
  · exact .inr ⟨g, cap, cur, hv, hg, hh, hn, hm, hs, ht⟩
/-- One of them out of memory. -/
theorem IsL.load {w : World} {base g cap : Nat} {l : List Sn} (h : IsL w base (.slice (some ⟨g, 0, none⟩) l.length cap) l) (i : Nat) (x : Sn) (hx : l[i]? = some x) : (loadVar 42 ⟨g, i * 13, none⟩).run Try.prog w = .ok (.agg x.A) w := by
  have hi : i < l.length := (List.getElem?_eq_some_iff.1 hx).1
  rcases h.form with ⟨h1, _⟩ | ⟨g', cap', cur, hv, _, hh, hn, _, hs, ht⟩
  · cases h1
  · cases hv
    have := load_part 42 13 size42 agg42 w g (i * 13) cur.toList 42 hh (by simp [hs]; omega)
    rw [this]
    have e : (cur.toList.drop (i * 13)).take 13 = x.L := by
      rw [← flat_at l i x hx, ← ht, List.drop_take, List.take_take, Nat.min_eq_left (by omega)]
    rw [e]
    rfl
/-- One of them into memory. -/
theorem IsL.store {w : World} {base g cap : Nat} {l : List Sn} (h : IsL w base (.slice (some ⟨g, 0, none⟩) l.length cap) l) (i : Nat) (x : Sn) (hi : i < l.length) : ∃ w', (storeVar 42 ⟨g, i * 13, none⟩ (.agg x.A)).run Try.prog w = .ok () w' ∧ IsL w' base (.slice (some ⟨g, 0, none⟩) l.length cap) (l.set i x) ∧ Kp [g] w w' := by
  rcases h.form with ⟨h1, _⟩ | ⟨g', cap', cur, hv, hg, hh, hn, hm, hs, ht⟩
  · cases h1
  · cases hv
    refine ⟨_, store_part 42 13 size42 w g (i * 13) cur 42 hh x.L (Sn.L_len x) (by rw [hs]; omega) (by intro v hv; simp [Sn.L] at hv; rcases hv with rfl | rfl | rfl | rfl | rfl | rfl | rfl | rfl | rfl | rfl | rfl | rfl | rfl <;> rfl), ⟨by rw [flat_len], .inr ⟨g, cap, _, by rw [List.length_set], hg, setRow_heap w g cur _ _ _ hh, by rw [List.length_set]; exact hn, hm, ?_, ?_⟩⟩, (Kp.refl _ _).row _ _ (.inl (by simp))⟩
    · have := put_len cur.toList x.L (i * 13) (by rw [Sn.L_len]; simp [hs]; omega)
      unfold put at this
      rw [List.size_toArray, this, Array.length_toList, hs]
    · have e : l.set i x = l.take i ++ (x :: l.drop (i + 1)) := by rw [List.set_eq_take_append_cons_drop, if_pos hi]
      have hl : (flat (l.take i)).length = i * 13 := by rw [flat_len, List.length_take]; congr 1; omega
      have ef : flat (l.set i x) = flat (l.take i) ++ (x.L ++ flat (l.drop (i + 1))) := by rw [e, flat_app]; rfl
      have f1 : flat (l.take i) = cur.toList.take (i * 13) := by
        have : (flat l).take (i * 13) = flat (l.take i) := by
          conv => lhs; rw [← List.take_append_drop i l, flat_app]
          rw [List.take_append_of_le_length (by omega), List.take_of_length_le (by omega)]
        rw [← this, ← ht, List.take_take, Nat.min_eq_left (by omega)]
      have f2 : flat (l.drop (i + 1)) = (cur.toList.drop ((i + 1) * 13)).take ((l.length - (i + 1)) * 13) := by
        have hl2 : (flat (l.take (i + 1))).length = (i + 1) * 13 := by rw [flat_len, List.length_take]; congr 1; omega
        have : (flat l).drop ((i + 1) * 13) = flat (l.drop (i + 1)) := by
          conv => lhs; rw [← List.take_append_drop (i + 1) l, flat_app]
          rw [List.drop_append_of_le_length (by omega), List.drop_of_length_le (by omega), List.nil_append]
        rw [← this, ← ht, List.drop_take]
        congr 1; omega
      have hc1 : (cur.toList.take (i * 13)).length = i * 13 := by rw [List.length_take]; simp [hs]; omega
      have hA : (cur.toList.take (i * 13) ++ x.L).length = (i + 1) * 13 := by rw [List.length_append, hc1, Sn.L_len]; omega
      rw [List.length_set, List.toList_toArray, List.take_append, List.take_of_length_le (by rw [hA]; omega), hA, ef, f1, f2, List.append_assoc, Sn.L_len, show i * 13 + 13 = (i + 1) * 13 from by omega, show l.length * 13 - (i + 1) * 13 = (l.length - (i + 1)) * 13 from by omega]
set_option maxHeartbeats 1000000 in
set_option maxRecDepth 100000 in
theorem len_any (a : Option Addr) (n c : Nat) (w : World) : Calls Try.prog 26 #[.slice a n c] w fun e w' => e = .returned (.int .i64 (n : Int)) ∧ w' = w := by
  go_enter Try.func26, Try.ntmps26
  go_wp2_with fail
  go_ret
  exact ⟨rfl, rfl⟩
#print axioms IsL.load
#print axioms IsL.store
#print axioms len_any

end Go.Proofs.Ytndlpjfofjikeaa
