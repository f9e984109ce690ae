/-
  Both watches side by side; the law's same, tells and frame.
-/
import Derived.Test.YtjdfacjfpdfafaaIb
import Derived.Test.YtjdfacjfpdfafaaIc
import Derived.Test.YtjdfacjfpdfafaaHq
import Derived.Test.YtjdfacjfpdfafaaHr
namespace Go.Proofs.Ytjdfacjfpdfafaa
open Go.RowKit

/-- The frame of a Hear. -/
def Ox.fr (x : Ox) : Hx := if x.k.tmod 2 = 1 then x.F else ⟨1792 + x.nd, 1, x.st, 0, 0, 0, 0, 0, 0, 0, false, 0⟩
abbrev Hx.V (h : Hx) : Value := frV h.i h.n h.d0 h.d1 h.d2 h.d3 h.d4 h.d5 h.d6 h.d7 h.r
theorem Ox.fr_ok {x : Ox} (h : x.Ok) : (0 ≤ x.fr.i ∧ x.fr.i < 65536) ∧ 0 ≤ x.fr.d0 ∧ x.fr.d0 < 256 := by
  obtain ⟨h1, h2, h3, h4, h5⟩ := h
  unfold Ox.fr
  split
  · exact ⟨h5, h4 _ (by simp)⟩
  · exact ⟨by show (0 : Int) ≤ 1792 + x.nd ∧ 1792 + x.nd < 65536; omega, h3⟩
abbrev Ox.A (x : Ox) : Array Value := #[.int .u8 x.k, .int .u8 x.nd, .int .u8 x.st, .int .i64 x.N, .int .i64 x.now, .int .u16 x.F.i, .int .i64 x.F.n, .int .u8 x.F.d0, .int .u8 x.F.d1, .int .u8 x.F.d2, .int .u8 x.F.d3, .int .u8 x.F.d4, .int .u8 x.F.d5, .int .u8 x.F.d6, .int .u8 x.F.d7, .bool x.F.r]
set_option linter.unusedSimpArgs false in
set_option maxHeartbeats 4000000 in
set_option maxRecDepth 100000 in
theorem opf_any (x : Ox) (hx : x.Ok) (w : World) : Calls Try.prog 21 #[.agg x.A] w fun e w' => e = .returned x.fr.V ∧ Below w.heap.size w w' := by
  obtain ⟨k0, n0, s0, _⟩ := hx
  have BE : Hid (∀ w, Calls Try.prog 27 #[.int .u8 x.nd, .int .u8 x.st] w fun e w' => e = .returned (beV x.nd x.st) ∧ Below w.heap.size w w') := fun w => rbeat_any x.nd x.st n0 w
  have km : x.k.tmod 2 = x.k % 2 := Int.tmod_eq_emod_of_nonneg k0.1
  by_cases h : x.k % 2 = 1
  · have e : x.fr = x.F := if_pos (by rw [km]; exact h)
    have R1 : x.k.tmod 2 = 1 := by rw [km]; exact h
    rw [e]
    clear e k0 n0 s0 h km
    obtain ⟨k, nd, st, N, now, F⟩ := x
    obtain ⟨i, n, d0, d1, d2, d3, d4, d5, d6, d7, r, z⟩ := F
    go_enter Try.func21, Try.ntmps21
    have g6 := at11 (w.alloc (.cells #[.int .u8 k, .int .u8 nd, .int .u8 st, .int .i64 N, .int .i64 now, .int .u16 i, .int .i64 n, .int .u8 d0, .int .u8 d1, .int .u8 d2, .int .u8 d3, .int .u8 d4, .int .u8 d5, .int .u8 d6, .int .u8 d7, .bool r] 51)) (.cells (frC 0 0 0 0 0 0 0 0 0 0 false) 37) (w.heap.size + 1) (by simp)
    go_wp2_with (refine wpList_store_row rfl 37 _ _ rfl (w.heap.size + 1) (frC i n d0 d1 d2 d3 d4 d5 d6 d7 r) rfl rfl 37 _ g6 infoF rfl (frC_one _ _ _ _ _ _ _ _ _ _ _) ?_)
    have hc := fun j => cell_of_row (((w.alloc (.cells #[.int .u8 k, .int .u8 nd, .int .u8 st, .int .i64 N, .int .i64 now, .int .u16 i, .int .i64 n, .int .u8 d0, .int .u8 d1, .int .u8 d2, .int .u8 d3, .int .u8 d4, .int .u8 d5, .int .u8 d6, .int .u8 d7, .bool r] 51)).alloc (.cells (frC 0 0 0 0 0 0 0 0 0 0 false) 37)).setRow (w.heap.size + 1) (frC i n d0 d1 d2 d3 d4 d5 d6 d7 r)) (w.heap.size + 1) j _ _ _ (setRow_heap _ _ _ _ _ _ g6)
    refine bodyPost_ret (v := frV i n d0 d1 d2 d3 d4 d5 d6 d7 r) ?_ rfl ⟨rfl, below_setRow (by repeat (first | exact Below.refl _ _ | apply Below.drew | apply Below.al)) (by omega) _⟩
    simp [results, Try.results21, go_sem, hc]
  · have e : x.fr = ⟨1792 + x.nd, 1, x.st, 0, 0, 0, 0, 0, 0, 0, false, 0⟩ := if_neg (by rw [km]; exact h)
    have R1 : x.k.tmod 2 = 0 := by rw [km]; omega
    rw [e]
    clear e k0 n0 s0 h km
    obtain ⟨k, nd, st, N, now, F⟩ := x
    obtain ⟨i, n, d0, d1, d2, d3, d4, d5, d6, d7, r, z⟩ := F
    go_enter Try.func21, Try.ntmps21
    go_wp2_with fail
    refine (BE.out _).mono ?_
    rintro e w1 ⟨rfl, hb⟩
    have g6 := blk11 hb (at11 (w.alloc (.cells #[.int .u8 k, .int .u8 nd, .int .u8 st, .int .i64 N, .int .i64 now, .int .u16 i, .int .i64 n, .int .u8 d0, .int .u8 d1, .int .u8 d2, .int .u8 d3, .int .u8 d4, .int .u8 d5, .int .u8 d6, .int .u8 d7, .bool r] 51)) (.cells (frC 0 0 0 0 0 0 0 0 0 0 false) 37) (w.heap.size + 1) (by simp))
    have B1 : Below w.heap.size w w1 := Below.andThen (by repeat (first | exact Below.refl _ _ | apply Below.drew | apply Below.al)) hb
    clear hb BE
    go_wp2_with (refine wpList_store_row rfl 37 _ _ rfl (w.heap.size + 1) (frC (1792 + nd) 1 st 0 0 0 0 0 0 0 false) rfl rfl 37 _ g6 infoF rfl (frC_one _ _ _ _ _ _ _ _ _ _ _) ?_)
    have hc := fun j => cell_of_row (w1.setRow (w.heap.size + 1) (frC (1792 + nd) 1 st 0 0 0 0 0 0 0 false)) (w.heap.size + 1) j _ _ _ (setRow_heap _ _ _ _ _ _ g6)
    refine bodyPost_ret (v := beV nd st) ?_ rfl ⟨rfl, below_setRow B1 (by omega) _⟩
    simp [results, Try.results21, go_sem, hc]
set_option linter.unusedSimpArgs false in
set_option maxHeartbeats 4000000 in
set_option maxRecDepth 100000 in
theorem same_any (a k s : Int) (w : World) : Calls Try.prog 23 #[.agg (evA a k s), .agg (evA a k s)] w fun e w' => e = .returned (.bool true) ∧ Below w.heap.size w w' := by
  go_enter Try.func23, Try.ntmps23
  go_wp2_with fail
  go_ret
  exact ⟨rfl, (by repeat (first | exact Below.refl _ _ | apply Below.drew | apply Below.al))⟩
/-- The program's watch stands for one row, the document's for another. -/
structure Md (w : World) (base p q r : Nat) (S1 S2 : List Nd) : Prop where
  w_ : ∃ P, IsW w base p P S1
  d : IsD w q r S2
  lq : base ≤ q
  lr : base ≤ r
theorem Md.next {w w' : World} {base p q r : Nat} {S1 S2 : List Nd} (h : Md w base p q r S1 S2) (hb : Below w.heap.size w w') : Md w' base p q r S1 S2 := by
  obtain ⟨⟨P, h1⟩, h2, h3, h4⟩ := h
  exact ⟨⟨P, h1.next hb⟩, h2.next hb, h3, h4⟩
theorem Md.toW {w w' : World} {base p q r : Nat} {S1 S2 S3 : List Nd} (h : Md w base p q r S1 S2) (h1 : ∃ P, IsW w' base p P S3) (hk : Kt base w w') : Md w' base p q r S3 S2 := ⟨h1, h.d.kt hk, h.lq, h.lr⟩
theorem Md.toD {w w' : World} {base p q r : Nat} {S1 S2 S3 : List Nd} (h : Md w base p q r S1 S2) (h1 : IsD w' q r S3) (hk : Kp [r] w w') : Md w' base p q r S1 S3 := by
  obtain ⟨⟨P, h2⟩, h3, h4, h5⟩ := h
  exact ⟨⟨P, h2.kp hk h3.l (by decide) (by decide)⟩, h1, h4, h5⟩
theorem Md.ok {w : World} {base p q r : Nat} {S1 S2 : List Nd} (h : Md w base p q r S1 S2) : ∀ x ∈ S1, x.Ok := by
  obtain ⟨⟨P, h1⟩, _⟩ := h
  exact h1.ok
theorem Z0.set {S : List Nd} (h : Z0 S) {k : Nat} (hk : 1 ≤ k) (x : Nd) : Z0 (S.set k x) := fun y hy => by
  rw [List.getElem?_set_ne (by omega)] at hy
  exact h y hy
theorem Z0.setL {S : List Nd} (h : Z0 S) (a W : Int) : Z0 (setL S a W) := by
  by_cases hc : setC S a W = 0
  · rw [setL_ok hc]
    refine h.set ?_ _
    have : ndB a = true := by
      cases q : ndB a with
      | true => rfl
      | false => rw [setC_bad (.inl q)] at hc; cases hc
    have := ndB_of this
    omega
  · rw [setL_no hc]; exact h
theorem Z0.hear {S : List Nd} (h : Z0 S) {i n d0 d1 d2 d3 d4 d5 d6 d7 : Int} {r : Bool} (s now : Int) : Z0 (hearL S (btB i n d0 d1 d2 d3 d4 d5 d6 d7 r) i s now) := by
  unfold hearL
  cases hq : btB i n d0 d1 d2 d3 d4 d5 d6 d7 r with
  | false => rw [heard_no (.inl rfl)]; exact h
  | true =>
    have h2 := ndB_of (btB_of hq).1
    split
    · exact h
    · exact h.set (by omega) _
theorem Z0.tick {S : List Nd} (h : Z0 S) (now : Int) : Z0 (S.map (·.tick now)) := fun x hx => by
  rw [List.getElem?_map, Option.map_eq_some_iff] at hx
  obtain ⟨y, hy, rfl⟩ := hx
  have := h y hy
  unfold Nd.tick
  split <;> exact this
set_option linter.unusedSimpArgs false in
set_option maxHeartbeats 4000000 in
set_option maxRecDepth 100000 in
theorem tells_any {w : World} {base p q r : Nat} {S : List Nd} (h : Md w base p q r S S) (hz : Z0 S) (a : Int) (ha : 0 ≤ a) : Calls Try.prog 26 #[pt p, pt q, .int .u8 a] w fun e w' => e = .returned (.bool true) ∧ Below w.heap.size w w' := by
  have hok := h.ok
  obtain ⟨⟨P, h1⟩, h2, _, _⟩ := h
  have S1 : Hid (Calls Try.prog 29 #[pt p, .int .u8 a] w fun e w' => e = .returned (.tuple #[.int .u8 (stV S a).1, .bool (stV S a).2]) ∧ w' = w) := state_any h1 a ha
  have S2 : Hid (Calls Try.prog 42 #[pt q, .int .u8 a] w fun e w' => e = .returned (.tuple #[.int .u8 (stV S a).1, .bool (stV S a).2]) ∧ w' = w) := rdstate_any h2 hz hok a ha
  have D1 : Hid (Calls Try.prog 28 #[pt p] w fun e w' => e = .returned (dueV (dueK S 128)) ∧ Below w.heap.size w w') := wdue_any h1
  have D2 : Hid (∀ W, Below w.heap.size w W → Calls Try.prog 43 #[pt q] W fun e w' => e = .returned (dueV (dueK S 128)) ∧ Below W.heap.size W w') := fun W hW => rdue_any (h2.next hW) hok
  obtain ⟨s1, hs1⟩ : ∃ s, s = (stV S a).1 := ⟨_, rfl⟩
  obtain ⟨s2, hs2⟩ : ∃ s, s = (stV S a).2 := ⟨_, rfl⟩
  obtain ⟨n1, hn1⟩ : ∃ s, s = (dueK S 128).getD 0 := ⟨_, rfl⟩
  obtain ⟨n2, hn2⟩ : ∃ s, s = (dueK S 128).isSome := ⟨_, rfl⟩
  rw [← hs1, ← hs2] at S1 S2
  simp only [dueV] at D1 D2
  rw [← hn1, ← hn2] at D1 D2
  clear hs1 hs2 hn1 hn2 h1 h2 hz hok ha
  go_enter Try.func26, Try.ntmps26
  go_wp2_with fail
  refine S1.out.mono ?_
  rintro e w1 ⟨rfl, rfl⟩
  go_wp2_with fail
  refine S2.out.mono ?_
  rintro e w1 ⟨rfl, rfl⟩
  go_wp2_with fail
  refine D1.out.mono ?_
  rintro e w2 ⟨rfl, b2⟩
  go_wp2_with fail
  refine (D2.out _ b2).mono ?_
  rintro e w3 ⟨rfl, b3⟩
  have B3 := Below.andThen b2 b3
  clear S1 S2 D1 D2 b2 b3
  go_wp2_with fail
  go_ret
  exact ⟨ret_bool (by simp), B3⟩
#print axioms opf_any
#print axioms same_any
#print axioms tells_any
end Go.Proofs.Ytjdfacjfpdfafaa
