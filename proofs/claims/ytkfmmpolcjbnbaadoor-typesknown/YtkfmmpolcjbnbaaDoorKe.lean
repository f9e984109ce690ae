/-
  The walk of TypesKnown.
-/
import Derived.Test.YtkfmmpolcjbnbaaDoorKa
import Derived.Test.YtkfmmpolcjbnbaaDoorWk5
import Derived.Deep.RegionHeld3
import Derived.Deep.QuietTactic
import Derived.Deep.WholeRow
namespace Go.Proofs.YtkfmmpolcjbnbaaDoor
open Pl Go.RowKit

theorem info34 : (Tryd.prog.info? 34).map (fun i => (i.zero, i.size, i.bytes)) = some (some (.agg #[.int .u8 0, .slice none 0 0, .string ⟨#[]⟩]), 3, 48) := by kernel_rfl
theorem fl3_one (l : List Sd) : ∀ u ∈ fl3 l, u.oneCell' = true := by
  intro u hu
  unfold fl3 at hu
  obtain ⟨d, _, hd⟩ := List.mem_flatMap.1 hu
  simp [Sd.L] at hd
  rcases hd with rfl | rfl | rfl <;> rfl
theorem own_lit {W : World} {C : Array Value} {base n k : Nat} (l : List Sd) (hn : n = W.heap.size) (hb : base ≤ n) (hC : C = (fl3 l).toArray) (hk : l.length = k) (hm : k ≤ 1000) : (W.alloc (.cells C 34)).ownsRow base 34 3 (.slice (some ⟨n, 0, none⟩) k k) k (fl3 l) := by
  subst hn hk hC
  refine ⟨by rw [fl3_len], .inr ⟨_, l.length, (fl3 l).toArray, rfl, hb, ?_, Nat.le_refl _, Nat.le_trans hm (by decide), by simp [fl3_len], ?_⟩⟩
  · exact heap_alloc_last W _
  · rw [List.toList_toArray, List.take_of_length_le (by rw [fl3_len]; exact Nat.le_refl _)]
theorem isS_own {w : World} {base g n cap : Nat} {l : List Sd} (h : w.ownsRow base 34 3 (.slice (some ⟨g, 0, none⟩) n cap) n (fl3 l)) (hi : ∀ d ∈ l, d.In w) : IsS w g l := by
  rcases h.2 with ⟨h1, _⟩ | ⟨g', cap', cur, hv, _, hh, hn, _, hs, ht⟩
  · cases h1
  · cases hv
    refine ⟨fun j u hj => ?_, hi, (Array.getElem?_eq_some_iff.1 hh).1⟩
    rw [cell_of_row w _ _ _ _ _ hh, ← Array.getElem?_toList]
    rw [← ht] at hj
    rw [List.getElem?_take] at hj
    split at hj
    · exact hj
    · cases hj
theorem own_below {w w' : World} {base n : Nat} {v : Value} {xs : List Value} (h : w.ownsRow base 34 3 v n xs) (k : Below w.heap.size w w') : w'.ownsRow base 34 3 v n xs :=
  h.kept (row := none) ⟨k.os, k.tape, k.output, k.size, fun i hi _ => k.block i hi⟩ (by cases hv : v.ownBlock with | none => exact .inl rfl | some _ => exact .inr (by simp))
theorem row_grown {w w' : World} {a : Option Addr} {len k : Nat} {zs : List Int} (h : Row w a len zs) (hg : w.grownBy w' (some k)) (hn : ∀ b off, a = some ⟨b, off, none⟩ → b ≠ k) : Row w' a len zs where
  size := h.size
  oct := h.oct
  at_ := fun hp => by
    obtain ⟨b, off, e, hc⟩ := h.at_ hp
    have hb : b < w.heap.size := h.old hp b off e
    refine ⟨b, off, e, fun i hi => ?_⟩
    rw [World.cell?_of_block (hg.block b hb (by simp; exact hn b off e))]
    exact hc i hi
theorem ex1_ok : (exA ++ exF).all Ex.both = true := by rw [List.all_append, exA_ok, exF_ok]; rfl
theorem own_some {w : World} {base n : Nat} {v : Value} {xs : List Value} (h : w.ownsRow base 34 3 v n xs) (hn : n ≠ 0) : ∃ g cap, v = .slice (some ⟨g, 0, none⟩) n cap := by
  rcases h.2 with ⟨_, h2⟩ | ⟨g, cap, cur, hv, _⟩
  · exact absurd h2 hn
  · exact ⟨g, cap, hv⟩
theorem both_of {l : List Sd} {L : List Ex} (h : l.map Sd.x = L) (ha : L.all Ex.both = true) (i : Nat) (d : Sd) (hd : l[i]? = some d) : kindN d.t ≠ 0 ∧ txS d.t d.z = d.s ∧ txE d.t d.z = 0 ∧ valN d.t d.s = some d.z ∧ d.s.length ≤ 1000000 := by
  have hm : d.x ∈ L := by rw [← h]; exact List.mem_map_of_mem (List.mem_of_getElem? hd)
  exact of_decide_eq_true (List.all_eq_true.1 ha _ hm)
theorem not_of {l : List Sd} {L : List Ex} (h : l.map Sd.x = L) (ha : L.all Ex.not = true) (i : Nat) (d : Sd) (hd : l[i]? = some d) : kindN d.t ≠ 0 ∧ valN d.t d.s = none ∧ d.s.length ≤ 1000000 := by
  have hm : d.x ∈ L := by rw [← h]; exact List.mem_map_of_mem (List.mem_of_getElem? hd)
  exact of_decide_eq_true (List.all_eq_true.1 ha _ hm)
theorem more_of {l : List Sd} (h : l.map Sd.x = exM) (i : Nat) (d : Sd) (hd : l[i]? = some d) : (i ≠ 4 → kindN d.t ≠ 0 ∧ valN d.t d.s = some d.z ∧ d.s.length ≤ 1000000) ∧ (i = 4 → kindN d.t ≠ 0 ∧ valN d.t d.s = none ∧ d.s.length ≤ 1000000) := by
  have hx : exM[i]? = some d.x := by rw [← h, List.getElem?_map, hd]; rfl
  obtain ⟨h1, h2, h3⟩ := exM_ok
  refine ⟨fun hi => ?_, fun hi => ?_⟩
  · by_cases h4 : i < 4
    · have hm : d.x ∈ exM.take 4 := List.mem_of_getElem? (i := i) (by rw [List.getElem?_take, if_pos h4]; exact hx)
      exact of_decide_eq_true (List.all_eq_true.1 h1 _ hm)
    · have hm : d.x ∈ exM.drop 5 := List.mem_of_getElem? (i := i - 5) (by rw [List.getElem?_drop, show 5 + (i - 5) = i from by omega]; exact hx)
      exact of_decide_eq_true (List.all_eq_true.1 h2 _ hm)
  · subst hi
    have hm : d.x ∈ (exM.drop 4).take 1 := List.mem_of_getElem? (i := 0) (by rw [List.getElem?_take, if_pos (by decide), List.getElem?_drop]; exact hx)
    exact of_decide_eq_true (List.all_eq_true.1 h3 _ hm)
theorem getL {l : List Sd} {L : List Ex} {n : Nat} (h : l.map Sd.x = L) (hn : L.length = n) (i : Nat) (hi : i < n) : ∃ d, l[i]? = some d := by
  have : l.length = n := by rw [← hn, ← h, List.length_map]
  exact ⟨l[i], List.getElem?_eq_getElem (by omega)⟩

set_option linter.unusedSimpArgs false in
set_option maxHeartbeats 8000000 in
set_option maxRecDepth 100000 in
theorem known_any (w : World) (hT : Tabs w) : Calls Tryd.prog 4 #[] w fun e w' => e = .returned (.bool true) ∧ Below w.heap.size w w' := by
  obtain ⟨i0, hi, hz0, hz1, hz2⟩ := info_parts info34
  go_enter Tryd.func4, Tryd.ntmps4
  have cidA := Go.Joins.run_convert_bytes_const_at (P := Tryd.prog) (((((w.alloc (.cells #[.int .u8 1] 5)).alloc (.cells #[.int .u8 128] 5)).alloc (.cells #[.int .u8 255, .int .u8 255, .int .u8 127] 5)).alloc (.cells #[.int .u8 0, .int .u8 0, .int .u8 0, .int .u8 0, .int .u8 0, .int .u8 0, .int .u8 0, .int .u8 128] 5)).alloc (.cells #[.int .u8 255, .int .u8 255, .int .u8 255, .int .u8 255, .int .u8 255, .int .u8 255, .int .u8 255, .int .u8 255] 5)) 22 5 #[.int .u8 97, .int .u8 34, .int .u8 10, .int .u8 92] 4 4 (w.heap.size + 1 + 1 + 1 + 1 + 1) (by simp) Tryd.underlying22 Tryd.underlying5
  go_wp2_with fail
  refine (floats_any _).mono ?_
  rintro e w1 ⟨b2, l2, rfl, S2, hx2, hf2, hb1⟩
  have S1 : IsS w1 (w.heap.size + 1 + 1 + 1 + 1 + 1 + 1 + 1 + 1 + 1) [⟨1, some ⟨w.heap.size, 0, none⟩, 1, 1, [1], [116, 114, 117, 101]⟩, ⟨2, some ⟨w.heap.size + 1, 0, none⟩, 1, 1, [128], [45, 49, 50, 56]⟩, ⟨16, some ⟨w.heap.size + 1 + 1, 0, none⟩, 3, 3, [255, 255, 127], [56, 51, 56, 56, 54, 48, 55]⟩, ⟨21, some ⟨w.heap.size + 1 + 1 + 1, 0, none⟩, 8, 8, [0, 0, 0, 0, 0, 0, 0, 128], [45, 57, 50, 50, 51, 51, 55, 50, 48, 51, 54, 56, 53, 52, 55, 55, 53, 56, 48, 56]⟩, ⟨27, some ⟨w.heap.size + 1 + 1 + 1 + 1, 0, none⟩, 8, 8, [255, 255, 255, 255, 255, 255, 255, 255], [49, 56, 52, 52, 54, 55, 52, 52, 48, 55, 51, 55, 48, 57, 53, 53, 49, 54, 49, 53]⟩, ⟨9, some ⟨w.heap.size + 1 + 1 + 1 + 1 + 1, 0, none⟩, 4, 4, [97, 34, 10, 92], [34, 97, 92, 34, 92, 120, 48, 97, 92, 92, 34]⟩, ⟨9, none, 0, 0, [], [34, 34]⟩, ⟨10, some ⟨w.heap.size + 1 + 1 + 1 + 1 + 1 + 1, 0, none⟩, 2, 2, [0, 171], [48, 48, 97, 98]⟩, ⟨15, none, 0, 0, [], []⟩, ⟨12, some ⟨w.heap.size + 1 + 1 + 1 + 1 + 1 + 1 + 1, 0, none⟩, 6, 6, [1, 0, 0, 0, 2, 0], [50, 58, 49]⟩, ⟨13, some ⟨w.heap.size + 1 + 1 + 1 + 1 + 1 + 1 + 1 + 1, 0, none⟩, 6, 6, [255, 91, 38, 5, 255, 255], [54, 53, 53, 51, 53, 58, 56, 54, 51, 57, 57, 57, 57, 57]⟩] := by
    refine IsS.next ?_ hb1
    exact isS_lit _ (by simp) rfl ⟨sdIn (rl [1] _ _ (by simp) rfl (by decide) rfl).al.al.al.al.al.al.al.al (by decide), sdIn (rl [128] _ _ (by simp) rfl (by decide) rfl).al.al.al.al.al.al.al (by decide), sdIn (rl [255, 255, 127] _ _ (by simp) rfl (by decide) rfl).al.al.al.al.al.al (by decide), sdIn (rl [0, 0, 0, 0, 0, 0, 0, 128] _ _ (by simp) rfl (by decide) rfl).al.al.al.al.al (by decide), sdIn (rl [255, 255, 255, 255, 255, 255, 255, 255] _ _ (by simp) rfl (by decide) rfl).al.al.al.al (by decide), sdIn (rl [97, 34, 10, 92] _ _ (by simp) rfl (by decide) rfl).al.al.al (by decide), sdIn (row_nil _) (by decide), sdIn (rl [0, 171] _ _ (by simp) rfl (by decide) rfl).al.al (by decide), sdIn (row_nil _) (by decide), sdIn (rl [1, 0, 0, 0, 2, 0] _ _ (by simp) rfl (by decide) rfl).al (by decide), sdIn (rl [255, 91, 38, 5, 255, 255] _ _ (by simp) rfl (by decide) rfl) (by decide), trivial⟩
  have O1 : w1.ownsRow w.heap.size 34 3 (.slice (some ⟨w.heap.size + 1 + 1 + 1 + 1 + 1 + 1 + 1 + 1 + 1, 0, none⟩) 11 11) 11 (fl3 [⟨1, some ⟨w.heap.size, 0, none⟩, 1, 1, [1], [116, 114, 117, 101]⟩, ⟨2, some ⟨w.heap.size + 1, 0, none⟩, 1, 1, [128], [45, 49, 50, 56]⟩, ⟨16, some ⟨w.heap.size + 1 + 1, 0, none⟩, 3, 3, [255, 255, 127], [56, 51, 56, 56, 54, 48, 55]⟩, ⟨21, some ⟨w.heap.size + 1 + 1 + 1, 0, none⟩, 8, 8, [0, 0, 0, 0, 0, 0, 0, 128], [45, 57, 50, 50, 51, 51, 55, 50, 48, 51, 54, 56, 53, 52, 55, 55, 53, 56, 48, 56]⟩, ⟨27, some ⟨w.heap.size + 1 + 1 + 1 + 1, 0, none⟩, 8, 8, [255, 255, 255, 255, 255, 255, 255, 255], [49, 56, 52, 52, 54, 55, 52, 52, 48, 55, 51, 55, 48, 57, 53, 53, 49, 54, 49, 53]⟩, ⟨9, some ⟨w.heap.size + 1 + 1 + 1 + 1 + 1, 0, none⟩, 4, 4, [97, 34, 10, 92], [34, 97, 92, 34, 92, 120, 48, 97, 92, 92, 34]⟩, ⟨9, none, 0, 0, [], [34, 34]⟩, ⟨10, some ⟨w.heap.size + 1 + 1 + 1 + 1 + 1 + 1, 0, none⟩, 2, 2, [0, 171], [48, 48, 97, 98]⟩, ⟨15, none, 0, 0, [], []⟩, ⟨12, some ⟨w.heap.size + 1 + 1 + 1 + 1 + 1 + 1 + 1, 0, none⟩, 6, 6, [1, 0, 0, 0, 2, 0], [50, 58, 49]⟩, ⟨13, some ⟨w.heap.size + 1 + 1 + 1 + 1 + 1 + 1 + 1 + 1, 0, none⟩, 6, 6, [255, 91, 38, 5, 255, 255], [54, 53, 53, 51, 53, 58, 56, 54, 51, 57, 57, 57, 57, 57]⟩]) := by
    refine own_below ?_ hb1
    exact own_lit _ (by simp) (by omega) rfl rfl (by decide)
  have B1 : Below w.heap.size w w1 := by
    refine Below.andThen ?_ hb1
    repeat (first | exact Below.refl _ _ | refine Below.al ?_ _)
  have F2 : ∀ d ∈ l2, ∀ c off, d.a = some ⟨c, off, none⟩ → c ≠ w.heap.size + 1 + 1 + 1 + 1 + 1 + 1 + 1 + 1 + 1 := fun d hd c off he => by
    have := hf2 d hd c off he
    simp at this
    omega
  have F1 : ∀ d ∈ ([⟨1, some ⟨w.heap.size, 0, none⟩, 1, 1, [1], [116, 114, 117, 101]⟩, ⟨2, some ⟨w.heap.size + 1, 0, none⟩, 1, 1, [128], [45, 49, 50, 56]⟩, ⟨16, some ⟨w.heap.size + 1 + 1, 0, none⟩, 3, 3, [255, 255, 127], [56, 51, 56, 56, 54, 48, 55]⟩, ⟨21, some ⟨w.heap.size + 1 + 1 + 1, 0, none⟩, 8, 8, [0, 0, 0, 0, 0, 0, 0, 128], [45, 57, 50, 50, 51, 51, 55, 50, 48, 51, 54, 56, 53, 52, 55, 55, 53, 56, 48, 56]⟩, ⟨27, some ⟨w.heap.size + 1 + 1 + 1 + 1, 0, none⟩, 8, 8, [255, 255, 255, 255, 255, 255, 255, 255], [49, 56, 52, 52, 54, 55, 52, 52, 48, 55, 51, 55, 48, 57, 53, 53, 49, 54, 49, 53]⟩, ⟨9, some ⟨w.heap.size + 1 + 1 + 1 + 1 + 1, 0, none⟩, 4, 4, [97, 34, 10, 92], [34, 97, 92, 34, 92, 120, 48, 97, 92, 92, 34]⟩, ⟨9, none, 0, 0, [], [34, 34]⟩, ⟨10, some ⟨w.heap.size + 1 + 1 + 1 + 1 + 1 + 1, 0, none⟩, 2, 2, [0, 171], [48, 48, 97, 98]⟩, ⟨15, none, 0, 0, [], []⟩, ⟨12, some ⟨w.heap.size + 1 + 1 + 1 + 1 + 1 + 1 + 1, 0, none⟩, 6, 6, [1, 0, 0, 0, 2, 0], [50, 58, 49]⟩, ⟨13, some ⟨w.heap.size + 1 + 1 + 1 + 1 + 1 + 1 + 1 + 1, 0, none⟩, 6, 6, [255, 91, 38, 5, 255, 255], [54, 53, 53, 51, 53, 58, 56, 54, 51, 57, 57, 57, 57, 57]⟩] : List Sd), ∀ c off, d.a = some ⟨c, off, none⟩ → c ≠ w.heap.size + 1 + 1 + 1 + 1 + 1 + 1 + 1 + 1 + 1 := fun d hd c off he => by
    simp only [List.mem_cons, List.not_mem_nil, or_false] at hd
    rcases hd with rfl | rfl | rfl | rfl | rfl | rfl | rfl | rfl | rfl | rfl | rfl <;> simp at he <;> omega
  clear hb1 hf2
  obtain ⟨lA, hlA⟩ : ∃ lA : List Sd, lA = [⟨1, some ⟨w.heap.size, 0, none⟩, 1, 1, [1], [116, 114, 117, 101]⟩, ⟨2, some ⟨w.heap.size + 1, 0, none⟩, 1, 1, [128], [45, 49, 50, 56]⟩, ⟨16, some ⟨w.heap.size + 1 + 1, 0, none⟩, 3, 3, [255, 255, 127], [56, 51, 56, 56, 54, 48, 55]⟩, ⟨21, some ⟨w.heap.size + 1 + 1 + 1, 0, none⟩, 8, 8, [0, 0, 0, 0, 0, 0, 0, 128], [45, 57, 50, 50, 51, 51, 55, 50, 48, 51, 54, 56, 53, 52, 55, 55, 53, 56, 48, 56]⟩, ⟨27, some ⟨w.heap.size + 1 + 1 + 1 + 1, 0, none⟩, 8, 8, [255, 255, 255, 255, 255, 255, 255, 255], [49, 56, 52, 52, 54, 55, 52, 52, 48, 55, 51, 55, 48, 57, 53, 53, 49, 54, 49, 53]⟩, ⟨9, some ⟨w.heap.size + 1 + 1 + 1 + 1 + 1, 0, none⟩, 4, 4, [97, 34, 10, 92], [34, 97, 92, 34, 92, 120, 48, 97, 92, 92, 34]⟩, ⟨9, none, 0, 0, [], [34, 34]⟩, ⟨10, some ⟨w.heap.size + 1 + 1 + 1 + 1 + 1 + 1, 0, none⟩, 2, 2, [0, 171], [48, 48, 97, 98]⟩, ⟨15, none, 0, 0, [], []⟩, ⟨12, some ⟨w.heap.size + 1 + 1 + 1 + 1 + 1 + 1 + 1, 0, none⟩, 6, 6, [1, 0, 0, 0, 2, 0], [50, 58, 49]⟩, ⟨13, some ⟨w.heap.size + 1 + 1 + 1 + 1 + 1 + 1 + 1 + 1, 0, none⟩, 6, 6, [255, 91, 38, 5, 255, 255], [54, 53, 53, 51, 53, 58, 56, 54, 51, 57, 57, 57, 57, 57]⟩] := ⟨_, rfl⟩
  have xA : lA.map Sd.x = exA := by rw [hlA]; rfl
  rw [← hlA] at S1 O1 F1
  clear hlA
  have HI : Hid (∀ w2 : World, w1.grownBy w2 (some (w.heap.size + 1 + 1 + 1 + 1 + 1 + 1 + 1 + 1 + 1)) → ∀ d ∈ lA ++ l2, d.In w2) := fun w2 hg d hd => by
    rcases List.mem_append.1 hd with h | h
    · exact ⟨row_grown (S1.i d h).row hg (F1 d h), (S1.i d h).le, (S1.i d h).max⟩
    · exact ⟨row_grown (S2.i d h).row hg (F2 d h), (S2.i d h).le, (S2.i d h).max⟩
  have S2c := S2.c
  clear S1 S2 F1 F2
  have hl2 : (fl3 l2).length = 14 * 3 := by rw [fl3_len, show l2.length = 14 from by have := congrArg List.length hx2; rw [List.length_map] at this; exact this.trans rfl]
  have nw2 : ∀ j u, (fl3 l2)[j]? = some u → w1.cell? ((⟨b2, 0, none⟩ : Addr).add j) = some u := fun j u hj => by rw [Addr.add_lit, Nat.zero_add]; exact S2c j u hj
  go_wp2_with (at_builtin; refine wpList_append_own _ rfl _ _ 35 rfl w.heap.size 34 i0 (.agg #[.int .u8 0, .slice none 0 0, .string ⟨#[]⟩]) 3 48 Tryd.underlying35 hi hz0 hz1 hz2 rfl (by decide) _ 11 _ rfl O1 ⟨b2, 0, none⟩ 14 14 (fl3 l2) rfl hl2 nw2 (fl3_one l2) (by decide) (by decide) B1.size ?_; intro v1 w2 O2 G2 _; obtain ⟨g, cap, rfl⟩ := own_some O2 (by decide))
  have B2 : Below w.heap.size w w2 := B1.grown G2 B1.size (fun j hj => (O1.lt j hj).1)
  have IN2 := HI.out w2 G2
  rw [← fl3_app] at O2
  have S2 : IsS w2 g (lA ++ l2) := isS_own O2 IN2
  obtain ⟨l1, hl1⟩ : ∃ l1, l1 = lA ++ l2 := ⟨_, rfl⟩
  have x1 : l1.map Sd.x = exA ++ exF := by rw [hl1, List.map_append, xA, hx2]
  rw [← hl1] at S2
  clear hl1 IN2 O2 G2 HI O1 B1 S2c xA hx2
  go_wp2_with fail
  go_loopw [2] (fun u vr => ∃ j : Nat, u = .int .i64 (j : Int) ∧ j ≤ 25 ∧ Below w.heap.size w vr ∧ IsS vr g l1) (fun u _ => 25 - (intOf u).toNat)
  case atStart => exact ⟨0, rfl, by omega, B2, S2⟩
  case round =>
    clear B2 S2
    obtain ⟨j, rfl, hj, hB, hS⟩ := hrel
    by_cases hlt : j < 25
    · have gj : (j : Int) < 25 := by omega
      obtain ⟨d, hd⟩ := getL x1 rfl j hlt
      obtain ⟨c0, c1, c2, hI⟩ := hS.at_ j d hd
      obtain ⟨k0, tS, tE, vv, hl⟩ := both_of x1 ex1_ok j d hd
      obtain ⟨t, a, len, cp, z, tx⟩ := d
      dsimp only at *
      have DR : Below wr.heap.size wr wr.drew := Below.drew (Below.refl _ _)
      have C6 : Calls Tryd.prog 6 #[.int .u8 t, .slice a len cp] wr.drew (fun e w' => e = .returned (.tuple #[.string (str tx), .int .i64 0]) ∧ Below wr.drew.heap.size wr.drew w') := by
        have := text_any t a len cp z wr.drew (hI.row.next DR) (hT.next (Below.andThen hB DR)) hI.le hI.max
        rw [tS, tE] at this
        exact this
      have CK : Hid (∀ x, Below wr.drew.heap.size wr.drew x → x.cell? ⟨g, j * 3, none⟩ = some (.int .u8 t) ∧ x.cell? ⟨g, j * 3 + 1, none⟩ = some (.slice a len cp)) := fun x hx => by
        have q := ((hS.next DR).next hx).at_ j _ hd
        exact ⟨q.1, q.2.1⟩
      clear tS tE
      have HH : Hid (Below w.heap.size w wr ∧ IsS wr g l1) := ⟨hB, hS⟩
      clear hB hS
      go_wp2_with fail
      go_region_held3 (fun x => x.cell? ⟨g, j * 3, none⟩ = some (.int .u8 t) ∧ x.cell? ⟨g, j * 3 + 1, none⟩ = some (.slice a len cp)) (first | exact CK.out _ (Below.refl _ _) | exact CK.out _ (by assumption)) ((go_at_call 6; refine C6.mono ?_; rintro e x1 ⟨rfl, bx1⟩))
      have B1 : Below wr.heap.size wr x1 := Below.andThen DR bx1
      clear C6 CK bx1
      have D1 : Below x1.heap.size x1 x1.drew := Below.drew (Below.refl _ _)
      have C7 : Calls Tryd.prog 8 #[.int .u8 t, .string (str tx)] x1.drew (ValueTo x1.drew (some z)) := by
        have := value_any t tx x1.drew k0 hl (hT.next (Below.andThen HH.out.1 (Below.andThen B1 D1)))
        rw [vv] at this
        exact this
      have CK : Hid (∀ x, Below x1.drew.heap.size x1.drew x → x.cell? ⟨g, j * 3, none⟩ = some (.int .u8 t) ∧ x.cell? ⟨g, j * 3 + 2, none⟩ = some (.string (str tx))) := fun x hx => by
        have q := (((HH.out.2.next B1).next D1).next hx).at_ j _ hd
        exact ⟨q.1, q.2.2.1⟩
      clear vv k0 hl c0 c1 c2
      go_wp2_with fail
      go_region_held3 (fun x => x.cell? ⟨g, j * 3, none⟩ = some (.int .u8 t) ∧ x.cell? ⟨g, j * 3 + 2, none⟩ = some (.string (str tx))) (first | exact CK.out _ (Below.refl _ _) | exact CK.out _ (by assumption)) ((go_at_call 8; refine C7.mono ?_; rintro e x2 ⟨⟨a2, len2, cap2, rfl, told⟩, bx2⟩))
      have B2 : Below wr.heap.size wr x2 := Below.andThen (Below.andThen B1 D1) bx2
      clear C7 CK bx2 B1 D1
      have D2 : Below x2.heap.size x2 x2.drew := Below.drew (Below.refl _ _)
      obtain ⟨_, c1, c2, hI2⟩ := (HH.out.2.next B2).at_ j _ hd
      have DN : ∀ n, Below x2.heap.size x2 (x2.drewN n) := fun n => ⟨rfl, rfl, rfl, Nat.le_refl _, fun _ _ => rfl⟩
      have cv1 := fun n => (told.row.next (DN n)).str' cap2
      have cv2 := fun n => (((HH.out.2.next B2).at_ j _ hd).2.2.2.row.next (DN n)).str' cp
      have FIN : Hid (∀ n, Below w.heap.size w (x2.drewN n) ∧ IsS (x2.drewN n) g l1) := fun n => ⟨Below.andThen (Below.andThen HH.out.1 B2) (DN n), (HH.out.2.next B2).next (DN n)⟩
      clear DN
      clear HH hI hI2 told B2 D2
      have wi : IntKind.i64.wrap ((j : Int) + 1) = ((j + 1 : Nat) : Int) := by rw [IntKind.wrap_i64]; omega
      go_wp2_with fail
      go_quiet (fail)
      go_wp2_with fail
      exact ⟨⟨j + 1, rfl, by omega, FIN.out _⟩, by simp [intOf]; omega⟩
    · have gj : ¬ (j : Int) < 25 := by omega
      clear hS hlt x1
      have cidM := Go.Joins.run_convert_bytes_const_at (P := Tryd.prog) (((((((wr.alloc (.cells #[.int .u8 31, .int .u8 0] 5)).alloc (.cells #[.int .u8 255, .int .u8 255, .int .u8 255, .int .u8 255, .int .u8 255, .int .u8 255, .int .u8 255, .int .u8 255] 5)).alloc (.cells #[.int .u8 0, .int .u8 0, .int .u8 192, .int .u8 63] 5)).alloc (.cells #[.int .u8 0, .int .u8 0, .int .u8 0, .int .u8 0] 5)).alloc (.cells #[.int .u8 0, .int .u8 0, .int .u8 0, .int .u8 0, .int .u8 0, .int .u8 0, .int .u8 240, .int .u8 67] 5)).alloc (.cells #[.int .u8 1, .int .u8 0, .int .u8 0, .int .u8 0] 5)).alloc (.cells #[.int .u8 171] 5)) 22 5 #[.int .u8 97, .int .u8 34, .int .u8 98] 3 3 (wr.heap.size + 1 + 1 + 1 + 1 + 1 + 1 + 1) (by simp) Tryd.underlying22 Tryd.underlying5
      go_wp2_with fail
      obtain ⟨g2, hg2⟩ : ∃ g2, Hid (g2 = wr.heap.size + 1 + 1 + 1 + 1 + 1 + 1 + 1 + 1) := ⟨_, rfl⟩
      rw [← hg2.out]
      go_loopw [8] (fun u vr => ∃ j : Nat, u = .int .i64 (j : Int) ∧ j ≤ 9 ∧ Below w.heap.size w vr ∧ ∃ l, l.map Sd.x = exM ∧ IsS vr g2 l) (fun u _ => 9 - (intOf u).toNat)
      case atStart =>
        refine ⟨0, rfl, by omega, Below.andThen hB ?_, [⟨6, some ⟨wr.heap.size, 0, none⟩, 2, 2, [31, 0], [48, 120, 49, 70]⟩, ⟨27, some ⟨wr.heap.size + 1, 0, none⟩, 8, 8, [255, 255, 255, 255, 255, 255, 255, 255], [48, 120, 102, 102, 102, 102, 102, 102, 102, 102, 102, 102, 102, 102, 102, 102, 102, 102]⟩, ⟨8, some ⟨wr.heap.size + 1 + 1, 0, none⟩, 4, 4, [0, 0, 192, 63], [54, 112, 45, 50]⟩, ⟨8, some ⟨wr.heap.size + 1 + 1 + 1, 0, none⟩, 4, 4, [0, 0, 0, 0], [48, 112, 57, 57, 57, 57]⟩, ⟨17, some ⟨wr.heap.size + 1 + 1 + 1 + 1, 0, none⟩, 8, 8, [0, 0, 0, 0, 0, 0, 240, 67], [49, 56, 52, 52, 54, 55, 52, 52, 48, 55, 51, 55, 48, 57, 53, 53, 49, 54, 49, 53, 112, 48]⟩, ⟨8, some ⟨wr.heap.size + 1 + 1 + 1 + 1 + 1, 0, none⟩, 4, 4, [1, 0, 0, 0], [49, 48, 50, 52, 112, 45, 49, 53, 57]⟩, ⟨10, some ⟨wr.heap.size + 1 + 1 + 1 + 1 + 1 + 1, 0, none⟩, 1, 1, [171], [97, 66]⟩, ⟨9, some ⟨wr.heap.size + 1 + 1 + 1 + 1 + 1 + 1 + 1, 0, none⟩, 3, 3, [97, 34, 98], [97, 34, 98]⟩, ⟨9, none, 0, 0, [], []⟩], rfl, isS_lit _ (by rw [hg2.out]; simp) rfl ⟨sdIn (rl [31, 0] _ _ (by simp) rfl (by decide) rfl).al.al.al.al.al.al.al (by decide), sdIn (rl [255, 255, 255, 255, 255, 255, 255, 255] _ _ (by simp) rfl (by decide) rfl).al.al.al.al.al.al (by decide), sdIn (rl [0, 0, 192, 63] _ _ (by simp) rfl (by decide) rfl).al.al.al.al.al (by decide), sdIn (rl [0, 0, 0, 0] _ _ (by simp) rfl (by decide) rfl).al.al.al.al (by decide), sdIn (rl [0, 0, 0, 0, 0, 0, 240, 67] _ _ (by simp) rfl (by decide) rfl).al.al.al (by decide), sdIn (rl [1, 0, 0, 0] _ _ (by simp) rfl (by decide) rfl).al.al (by decide), sdIn (rl [171] _ _ (by simp) rfl (by decide) rfl).al (by decide), sdIn (rl [97, 34, 98] _ _ (by simp) rfl (by decide) rfl) (by decide), sdIn (row_nil _) (by decide), trivial⟩⟩
        repeat (first | exact Below.refl _ _ | refine Below.al ?_ _)
      case round =>
        clear cidM hB hj gj hg2
        obtain ⟨j, rfl, hj, hB, l, xM, hS⟩ := hrel
        by_cases hlt : j < 9
        · have gj : (j : Int) < 9 := by omega
          obtain ⟨d, hd⟩ := getL xM rfl j hlt
          obtain ⟨c0, c1, c2, hI⟩ := hS.at_ j d hd
          obtain ⟨m1, m4⟩ := more_of xM j d hd
          obtain ⟨t, a, len, cp, z, tx⟩ := d
          dsimp only at *
          have DR : Below wr.heap.size wr wr.drew := Below.drew (Below.refl _ _)
          have wi : IntKind.i64.wrap ((j : Int) + 1) = ((j + 1 : Nat) : Int) := by rw [IntKind.wrap_i64]; omega
          have HH : Hid (Below w.heap.size w wr ∧ IsS wr g2 l) := ⟨hB, hS⟩
          have CK : Hid (∀ x, Below wr.drew.heap.size wr.drew x → x.cell? ⟨g2, j * 3, none⟩ = some (.int .u8 t) ∧ x.cell? ⟨g2, j * 3 + 2, none⟩ = some (.string (str tx))) := fun x hx => by
            have q := ((HH.out.2.next DR).next hx).at_ j _ hd
            exact ⟨q.1, q.2.2.1⟩
          clear hB hS c0 c1 c2
          by_cases h4 : j = 4
          · obtain ⟨k0, vv, hl⟩ := m4 h4
            have H4 : Hid (j = 4) := h4
            clear h4 m1 m4
            have C7 : Calls Tryd.prog 8 #[.int .u8 t, .string (str tx)] wr.drew (ValueTo wr.drew (none)) := by
              have := value_any t tx wr.drew k0 hl (hT.next (Below.andThen HH.out.1 DR))
              rw [vv] at this
              exact this
            clear vv k0 hl
            go_wp2_with fail
            go_region_held3 (fun x => x.cell? ⟨g2, j * 3, none⟩ = some (.int .u8 t) ∧ x.cell? ⟨g2, j * 3 + 2, none⟩ = some (.string (str tx))) (first | exact CK.out _ (Below.refl _ _) | exact CK.out _ (by assumption)) ((go_at_call 8; refine C7.mono ?_; rintro e x2 ⟨rfl, bx2⟩))
            have B2 : Below wr.heap.size wr x2 := Below.andThen DR bx2
            clear C7 CK bx2 DR
            have g4 : (j : Int) = 4 := by have := H4.out; omega
            have DN : ∀ n, Below x2.heap.size x2 (x2.drewN n) := fun n => ⟨rfl, rfl, rfl, Nat.le_refl _, fun _ _ => rfl⟩
            have D2 : Below x2.heap.size x2 x2.drew := Below.drew (Below.refl _ _)
            have FIN : Hid (∀ n, Below w.heap.size w (x2.drewN n) ∧ IsS (x2.drewN n) g2 l) := fun n => ⟨Below.andThen (Below.andThen HH.out.1 B2) (DN n), (HH.out.2.next B2).next (DN n)⟩
            clear DN
            clear HH hI B2 D2
            go_wp2_with fail
            go_quiet (fail)
            clear g4
            go_wp2_with fail
            exact ⟨⟨j + 1, rfl, by omega, (FIN.out _).1, l, xM, (FIN.out _).2⟩, by simp [intOf]; omega⟩
          · obtain ⟨k0, vv, hl⟩ := m1 h4
            clear m1 m4
            have g4 : ¬ (j : Int) = 4 := by omega
            have C7 : Calls Tryd.prog 8 #[.int .u8 t, .string (str tx)] wr.drew (ValueTo wr.drew (some z)) := by
              have := value_any t tx wr.drew k0 hl (hT.next (Below.andThen HH.out.1 DR))
              rw [vv] at this
              exact this
            clear vv k0 hl
            go_wp2_with fail
            go_region_held3 (fun x => x.cell? ⟨g2, j * 3, none⟩ = some (.int .u8 t) ∧ x.cell? ⟨g2, j * 3 + 2, none⟩ = some (.string (str tx))) (first | exact CK.out _ (Below.refl _ _) | exact CK.out _ (by assumption)) ((go_at_call 8; refine C7.mono ?_; rintro e x2 ⟨⟨a2, len2, cap2, rfl, told⟩, bx2⟩))
            have B2 : Below wr.heap.size wr x2 := Below.andThen DR bx2
            clear C7 CK bx2 DR
            have D2 : Below x2.heap.size x2 x2.drew := Below.drew (Below.refl _ _)
            obtain ⟨_, c1, c2, hI2⟩ := (HH.out.2.next B2).at_ j _ hd
            have DN : ∀ n, Below x2.heap.size x2 (x2.drewN n) := fun n => ⟨rfl, rfl, rfl, Nat.le_refl _, fun _ _ => rfl⟩
            have cv1 := fun n => (told.row.next (DN n)).str' cap2
            have cv2 := fun n => (((HH.out.2.next B2).at_ j _ hd).2.2.2.row.next (DN n)).str' cp
            have FIN : Hid (∀ n, Below w.heap.size w (x2.drewN n) ∧ IsS (x2.drewN n) g2 l) := fun n => ⟨Below.andThen (Below.andThen HH.out.1 B2) (DN n), (HH.out.2.next B2).next (DN n)⟩
            clear DN
            clear HH hI hI2 told B2 D2
            have g5 : ((j : Int) != 4) = true := by simp [g4]
            have g6 : ((j : Int) == 4) = false := by simp [g4]
            go_wp2_with fail
            go_quiet (fail)
            clear c1 c2 cv1 cv2
            go_wp2_with fail
            all_goals
              first
                | exact ⟨⟨j + 1, rfl, by omega, (FIN.out _).1, l, xM, (FIN.out _).2⟩, by simp [intOf]; omega⟩
                | (rw [IntKind.wrap_i64]; omega)
                | (refine ⟨⟨j + 1, by simp, by omega, (FIN.out _).1, l, xM, (FIN.out _).2⟩, ?_⟩; simp [intOf]; omega)

        · have gj : ¬ (j : Int) < 9 := by omega
          clear hS hlt xM
          go_wp2_with fail
          obtain ⟨g3, hg3⟩ : ∃ g3, Hid (g3 = wr.heap.size) := ⟨_, rfl⟩
          rw [← hg3.out]
          go_loopw [12] (fun u vr => ∃ j : Nat, u = .int .i64 (j : Int) ∧ j ≤ 45 ∧ Below w.heap.size w vr ∧ ∃ l, l.map Sd.x = exW ∧ IsS vr g3 l) (fun u _ => 45 - (intOf u).toNat)
          case atStart =>
            refine ⟨0, rfl, by omega, Below.andThen hB ?_, [⟨1, none, 0, 0, [], [49]⟩, ⟨1, none, 0, 0, [], [84, 114, 117, 101]⟩, ⟨5, none, 0, 0, [], [50, 53, 54]⟩, ⟨5, none, 0, 0, [], [48, 120, 49, 48, 48]⟩, ⟨5, none, 0, 0, [], [48, 120]⟩, ⟨5, none, 0, 0, [], [48, 49]⟩, ⟨5, none, 0, 0, [], [45, 48]⟩, ⟨5, none, 0, 0, [], [43, 49]⟩, ⟨5, none, 0, 0, [], []⟩, ⟨2, none, 0, 0, [], [49, 50, 56]⟩, ⟨2, none, 0, 0, [], [45, 49, 50, 57]⟩, ⟨2, none, 0, 0, [], [45, 48]⟩, ⟨2, none, 0, 0, [], [48, 120, 49]⟩, ⟨27, none, 0, 0, [], [49, 56, 52, 52, 54, 55, 52, 52, 48, 55, 51, 55, 48, 57, 53, 53, 49, 54, 49, 54]⟩, ⟨27, none, 0, 0, [], [48, 120, 48, 48, 48, 48, 48, 48, 48, 48, 48, 48, 48, 48, 48, 48, 48, 48, 49]⟩, ⟨8, none, 0, 0, [], [49, 112, 45, 49, 53, 48]⟩, ⟨8, none, 0, 0, [], [49, 112, 49, 50, 56]⟩, ⟨8, none, 0, 0, [], [49, 54, 55, 55, 55, 50, 49, 55, 112, 48]⟩, ⟨8, none, 0, 0, [], [49]⟩, ⟨8, none, 0, 0, [], [112, 48]⟩, ⟨8, none, 0, 0, [], [49, 112]⟩, ⟨8, none, 0, 0, [], [49, 112, 45, 48]⟩, ⟨8, none, 0, 0, [], [49, 112, 48, 48]⟩, ⟨8, none, 0, 0, [], [48, 112, 49, 48, 48, 48, 48]⟩, ⟨8, none, 0, 0, [], [49, 46, 53]⟩, ⟨8, none, 0, 0, [], [78, 97, 78]⟩, ⟨8, none, 0, 0, [], [110, 97, 110, 58, 55, 102, 56, 48, 48, 48, 48, 48]⟩, ⟨8, none, 0, 0, [], [110, 97, 110, 58, 55, 70, 67, 48, 48, 48, 48, 48]⟩, ⟨8, none, 0, 0, [], [110, 97, 110, 58, 55, 102, 99, 48, 48, 48, 48]⟩, ⟨8, none, 0, 0, [], [45, 45, 105, 110, 102]⟩, ⟨17, none, 0, 0, [], [49, 56, 52, 52, 54, 55, 52, 52, 48, 55, 51, 55, 48, 57, 53, 53, 49, 54, 49, 54, 112, 48]⟩, ⟨12, none, 0, 0, [], [49]⟩, ⟨12, none, 0, 0, [], [49, 58, 56, 54, 52, 48, 48, 48, 48, 48]⟩, ⟨12, none, 0, 0, [], [54, 53, 53, 51, 54, 58, 48]⟩, ⟨12, none, 0, 0, [], [49, 58, 50, 58, 51]⟩, ⟨10, none, 0, 0, [], [48]⟩, ⟨10, none, 0, 0, [], [48, 103]⟩, ⟨9, none, 0, 0, [], [34]⟩, ⟨9, none, 0, 0, [], [34, 97]⟩, ⟨9, none, 0, 0, [], [34, 97, 34, 98, 34]⟩, ⟨9, none, 0, 0, [], [34, 92, 120, 52, 49, 34]⟩, ⟨9, none, 0, 0, [], [34, 92, 120, 48, 65, 34]⟩, ⟨9, none, 0, 0, [], [34, 92, 110, 34]⟩, ⟨9, none, 0, 0, [], [34, 92, 34]⟩, ⟨9, none, 0, 0, [], [34, 0, 34]⟩], rfl, isS_lit _ (by rw [hg3.out]) rfl ⟨sdIn (row_nil _) (by decide), sdIn (row_nil _) (by decide), sdIn (row_nil _) (by decide), sdIn (row_nil _) (by decide), sdIn (row_nil _) (by decide), sdIn (row_nil _) (by decide), sdIn (row_nil _) (by decide), sdIn (row_nil _) (by decide), sdIn (row_nil _) (by decide), sdIn (row_nil _) (by decide), sdIn (row_nil _) (by decide), sdIn (row_nil _) (by decide), sdIn (row_nil _) (by decide), sdIn (row_nil _) (by decide), sdIn (row_nil _) (by decide), sdIn (row_nil _) (by decide), sdIn (row_nil _) (by decide), sdIn (row_nil _) (by decide), sdIn (row_nil _) (by decide), sdIn (row_nil _) (by decide), sdIn (row_nil _) (by decide), sdIn (row_nil _) (by decide), sdIn (row_nil _) (by decide), sdIn (row_nil _) (by decide), sdIn (row_nil _) (by decide), sdIn (row_nil _) (by decide), sdIn (row_nil _) (by decide), sdIn (row_nil _) (by decide), sdIn (row_nil _) (by decide), sdIn (row_nil _) (by decide), sdIn (row_nil _) (by decide), sdIn (row_nil _) (by decide), sdIn (row_nil _) (by decide), sdIn (row_nil _) (by decide), sdIn (row_nil _) (by decide), sdIn (row_nil _) (by decide), sdIn (row_nil _) (by decide), sdIn (row_nil _) (by decide), sdIn (row_nil _) (by decide), sdIn (row_nil _) (by decide), sdIn (row_nil _) (by decide), sdIn (row_nil _) (by decide), sdIn (row_nil _) (by decide), sdIn (row_nil _) (by decide), sdIn (row_nil _) (by decide), trivial⟩⟩
            repeat (first | exact Below.refl _ _ | refine Below.al ?_ _)
          case round =>
            clear hB hj gj hg3
            obtain ⟨j, rfl, hj, hB, l, xW, hS⟩ := hrel
            by_cases hlt : j < 45
            · have gj : (j : Int) < 45 := by omega
              obtain ⟨d, hd⟩ := getL xW rfl j hlt
              obtain ⟨c0, c1, c2, hI⟩ := hS.at_ j d hd
              obtain ⟨k0, vv, hl⟩ := not_of xW exW_ok j d hd
              obtain ⟨t, a, len, cp, z, tx⟩ := d
              dsimp only at *
              have DR : Below wr.heap.size wr wr.drew := Below.drew (Below.refl _ _)
              have wi : IntKind.i64.wrap ((j : Int) + 1) = ((j + 1 : Nat) : Int) := by rw [IntKind.wrap_i64]; omega
              have HH : Hid (Below w.heap.size w wr ∧ IsS wr g3 l) := ⟨hB, hS⟩
              have CK : Hid (∀ x, Below wr.drew.heap.size wr.drew x → x.cell? ⟨g3, j * 3, none⟩ = some (.int .u8 t) ∧ x.cell? ⟨g3, j * 3 + 2, none⟩ = some (.string (str tx))) := fun x hx => by
                have q := ((HH.out.2.next DR).next hx).at_ j _ hd
                exact ⟨q.1, q.2.2.1⟩
              clear hB hS c0 c1 c2
              have C7 : Calls Tryd.prog 8 #[.int .u8 t, .string (str tx)] wr.drew (ValueTo wr.drew (none)) := by
                have := value_any t tx wr.drew k0 hl (hT.next (Below.andThen HH.out.1 DR))
                rw [vv] at this
                exact this
              clear vv k0 hl
              go_wp2_with fail
              go_region_held3 (fun x => x.cell? ⟨g3, j * 3, none⟩ = some (.int .u8 t) ∧ x.cell? ⟨g3, j * 3 + 2, none⟩ = some (.string (str tx))) (first | exact CK.out _ (Below.refl _ _) | exact CK.out _ (by assumption)) ((go_at_call 8; refine C7.mono ?_; rintro e x2 ⟨rfl, bx2⟩))
              have B2 : Below wr.heap.size wr x2 := Below.andThen DR bx2
              clear C7 CK bx2 DR
              have FIN : Hid (Below w.heap.size w x2 ∧ IsS x2 g3 l) := ⟨Below.andThen HH.out.1 B2, HH.out.2.next B2⟩
              clear HH hI B2
              go_wp2_with fail
              exact ⟨⟨j + 1, rfl, by omega, FIN.out.1, l, xW, FIN.out.2⟩, by simp [intOf]; omega⟩

            · have gj : ¬ (j : Int) < 45 := by omega
              clear hS hlt xW
              have C1 := checks_any wr (hT.next hB)
              go_wp2_with fail
              refine C1.mono ?_
              rintro e y1 ⟨rfl, b1⟩
              have B3 := Below.andThen hB b1
              have C2 := works_any y1 (hT.next B3)
              clear C1 b1 hB
              go_wp2_with fail
              refine C2.mono ?_
              rintro e y2 ⟨rfl, b2⟩
              have B4 : Hid _ := Below.andThen B3 b2
              clear C2 b2 B3
              go_wp2_with fail
              go_ret
              exact ⟨rfl, B4.out⟩


end Go.Proofs.YtkfmmpolcjbnbaaDoor
