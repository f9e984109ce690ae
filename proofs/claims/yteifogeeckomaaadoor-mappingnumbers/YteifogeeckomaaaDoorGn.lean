/-
  MappingNumbers; Maps that came in.
-/
import Derived.Test.YteifogeeckomaaaDoorGm
import Derived.WalkKit
import Derived.ProofKit
import Derived.OpenShut
namespace Go.Proofs.YteifogeeckomaaaDoor
open Go.RowKit

set_option linter.unusedSimpArgs false in
set_option maxHeartbeats 4000000 in
set_option maxRecDepth 100000 in
theorem mappingNumbers_any (n i s b : Int) (w : World) (h0 : 0 ≤ n) (h1 : n < 4294967296) (hi : 0 ≤ i ∧ i < 65536) (hs : 0 ≤ s ∧ s < 256) (hT : Ty.Tab64 w) :
    Calls Tryd.prog 3 #[.int .u32 n, mpV i s b] w fun e w' => e = .returned (.bool true) ∧ Below w.heap.size w w' := by
  have HW : Hid (∀ W, Below w.heap.size w W → Calls Tryd.prog 6 #[] W fun e w' => e = .returned (.bool true) ∧ Below W.heap.size W w') := fun W hb => works12 W (tab_next hT hb)
  have HO : Hid (∀ W, Calls Tryd.prog 4 #[.int .u32 n] W fun e w' => e = .returned (mpV (n / 65536) (n / 256 % 256) (n % 256)) ∧ Below W.heap.size W w') := fun W => of_any n W h0 h1
  have HN : Hid (∀ W, Calls Tryd.prog 5 #[mpV (n / 65536) (n / 256 % 256) (n % 256)] W fun e w' => e = .returned (.int .u32 n) ∧ Below W.heap.size W w') := fun W => by
    have := number_any (n / 65536) (n / 256 % 256) (n % 256) W (by omega) (by omega) (by omega) (by omega)
    rw [num_of] at this
    exact this
  obtain ⟨r, hr⟩ : ∃ r, Hid (r = numN i s b) := ⟨_, rfl⟩
  have HM : Hid (∀ W, Calls Tryd.prog 5 #[mpV i s b] W fun e w' => e = .returned (.int .u32 r) ∧ Below W.heap.size W w') := fun W => by rw [hr.out]; exact number_any i s b W hi.1 hi.2 hs.1 hs.2
  have ea := and255 n h0 h1
  have e2 : IntKind.u8.wrap (n / 256) = n / 256 % 256 := IntKind.wrap_u8' _
  have e3 : IntKind.u16.wrap (n / 65536) = n / 65536 := by rw [IntKind.wrap_u16]; omega
  have w1 : IntKind.u32.wrap (i * 65536) = i * 65536 := by rw [IntKind.wrap_u32']; omega
  have w2 : IntKind.u32.wrap (s * 256) = s * 256 := by rw [IntKind.wrap_u32']; omega
  have o1 : bits .or .u32 (i * 65536) (s * 256) = i * 65536 + s * 256 := orH _ _ 16 (by omega) (by omega) (by omega) (by omega) (by omega) (by omega)
  have eqp : ∀ W, (binOp .eql 25 (plV (n / 65536) (n / 256 % 256)) (plV (n / 65536) (n / 256 % 256))).run Tryd.prog W = .ok (.bool true) W := fun W => by
    have := eqlP W (n / 65536) (n / 256 % 256) (n / 65536) (n / 256 % 256)
    simpa using this
  clear hT
  go_enter Tryd.func3, Tryd.ntmps3
  go_wp2_with fail
  refine (HO.out _).mono ?_
  rintro e z1 ⟨rfl, hb1⟩
  have B1 : Hid (Below w.heap.size w z1) := Below.andThen (by repeat (first | exact Below.refl _ _ | apply Below.drew | apply Below.al)) hb1
  have X1 : Hid (z1.heap[w.heap.size]? = some (.cells #[.int .u16 i, .int .u8 s, .int .i64 b] 27 (0, 0))) := blk11 hb1 (at11 _ _ _ rfl)
  have c0 : z1.cell? ⟨w.heap.size, 0, none⟩ = some (.int .u16 i) := by rw [cell_of_row _ _ 0 _ _ _ X1.out]; rfl
  have c1 : z1.cell? ⟨w.heap.size, 1, none⟩ = some (.int .u8 s) := by rw [cell_of_row _ _ 1 _ _ _ X1.out]; rfl
  have c2 : z1.cell? ⟨w.heap.size, 2, none⟩ = some (.int .i64 b) := by rw [cell_of_row _ _ 2 _ _ _ X1.out]; rfl
  have lw := lt_of_heap X1.out
  clear hb1 HO
  by_cases hb0 : b < 0
  · have e : r = 0 := by rw [hr.out]; unfold numN; rw [if_pos (.inl hb0)]
    subst e
    go_wp2_with fail
    refine (HN.out _).mono ?_
    rintro e z2 ⟨rfl, hb2⟩
    have B2 : Hid (Below w.heap.size w z2) := Below.andThen (Below.al B1.out _) hb2
    have X2 : Hid (z2.heap[w.heap.size]? = some (.cells #[.int .u16 i, .int .u8 s, .int .i64 b] 27 (0, 0))) := blk11 hb2 (ext11 X1.out)
    have Y2 : Hid (z2.heap[z1.heap.size]? = some (.cells #[.int .u16 (n / 65536), .int .u8 (n / 256 % 256), .int .i64 (n % 256)] 27 (0, 0))) := blk11 hb2 (at11 _ _ _ rfl)
    have d0 : z2.cell? ⟨w.heap.size, 0, none⟩ = some (.int .u16 i) := by rw [cell_of_row _ _ 0 _ _ _ X2.out]; rfl
    have d1 : z2.cell? ⟨w.heap.size, 1, none⟩ = some (.int .u8 s) := by rw [cell_of_row _ _ 1 _ _ _ X2.out]; rfl
    have d2 : z2.cell? ⟨w.heap.size, 2, none⟩ = some (.int .i64 b) := by rw [cell_of_row _ _ 2 _ _ _ X2.out]; rfl
    have f0 : z2.cell? ⟨z1.heap.size, 0, none⟩ = some (.int .u16 (n / 65536)) := by rw [cell_of_row _ _ 0 _ _ _ Y2.out]; rfl
    have f1 : z2.cell? ⟨z1.heap.size, 1, none⟩ = some (.int .u8 (n / 256 % 256)) := by rw [cell_of_row _ _ 1 _ _ _ Y2.out]; rfl
    have f2 : z2.cell? ⟨z1.heap.size, 2, none⟩ = some (.int .i64 (n % 256)) := by rw [cell_of_row _ _ 2 _ _ _ Y2.out]; rfl
    clear hb2 c0 c1 c2
    go_wp2_with fail
    refine (HM.out _).mono ?_
    rintro e z3 ⟨rfl, hb3⟩
    have B3 : Hid (Below w.heap.size w z3) := Below.andThen B2.out hb3
    clear hb3 d0 d1 d2 f0 f1 f2
    go_wp2_with fail
    refine (HW.out _ B3.out).mono ?_
    rintro e z4 ⟨rfl, hb4⟩
    have B4 : Hid (Below w.heap.size w z4) := Below.andThen B3.out hb4
    clear hb4
    go_wp2_with fail
    go_ret
    exact ⟨rfl, B4.out⟩
  · by_cases hb1 : 255 < b
    · have e : r = 0 := by rw [hr.out]; unfold numN; rw [if_pos (.inr hb1)]
      subst e
      go_wp2_with fail
      refine (HN.out _).mono ?_
      rintro e z2 ⟨rfl, hb2⟩
      have B2 : Hid (Below w.heap.size w z2) := Below.andThen (Below.al B1.out _) hb2
      have X2 : Hid (z2.heap[w.heap.size]? = some (.cells #[.int .u16 i, .int .u8 s, .int .i64 b] 27 (0, 0))) := blk11 hb2 (ext11 X1.out)
      have Y2 : Hid (z2.heap[z1.heap.size]? = some (.cells #[.int .u16 (n / 65536), .int .u8 (n / 256 % 256), .int .i64 (n % 256)] 27 (0, 0))) := blk11 hb2 (at11 _ _ _ rfl)
      have d0 : z2.cell? ⟨w.heap.size, 0, none⟩ = some (.int .u16 i) := by rw [cell_of_row _ _ 0 _ _ _ X2.out]; rfl
      have d1 : z2.cell? ⟨w.heap.size, 1, none⟩ = some (.int .u8 s) := by rw [cell_of_row _ _ 1 _ _ _ X2.out]; rfl
      have d2 : z2.cell? ⟨w.heap.size, 2, none⟩ = some (.int .i64 b) := by rw [cell_of_row _ _ 2 _ _ _ X2.out]; rfl
      have f0 : z2.cell? ⟨z1.heap.size, 0, none⟩ = some (.int .u16 (n / 65536)) := by rw [cell_of_row _ _ 0 _ _ _ Y2.out]; rfl
      have f1 : z2.cell? ⟨z1.heap.size, 1, none⟩ = some (.int .u8 (n / 256 % 256)) := by rw [cell_of_row _ _ 1 _ _ _ Y2.out]; rfl
      have f2 : z2.cell? ⟨z1.heap.size, 2, none⟩ = some (.int .i64 (n % 256)) := by rw [cell_of_row _ _ 2 _ _ _ Y2.out]; rfl
      clear hb2 c0 c1 c2
      go_wp2_with fail
      refine (HM.out _).mono ?_
      rintro e z3 ⟨rfl, hb3⟩
      have B3 : Hid (Below w.heap.size w z3) := Below.andThen B2.out hb3
      clear hb3 d0 d1 d2 f0 f1 f2
      go_wp2_with fail
      refine (HW.out _ B3.out).mono ?_
      rintro e z4 ⟨rfl, hb4⟩
      have B4 : Hid (Below w.heap.size w z4) := Below.andThen B3.out hb4
      clear hb4
      go_wp2_with fail
      go_ret
      exact ⟨rfl, B4.out⟩
    · have e : r = i * 65536 + s * 256 + b := by rw [hr.out]; unfold numN; rw [if_neg (by omega)]
      have w3 : IntKind.u32.wrap b = b := by rw [IntKind.wrap_u32']; omega
      have o2 : bits .or .u32 (i * 65536 + s * 256) b = r := by rw [e]; exact orH _ _ 8 (by omega) (by omega) (by omega) (by omega) (by omega) (by omega)
      clear e
      go_wp2_with fail
      refine (HN.out _).mono ?_
      rintro e z2 ⟨rfl, hb2⟩
      have B2 : Hid (Below w.heap.size w z2) := Below.andThen (Below.al B1.out _) hb2
      have X2 : Hid (z2.heap[w.heap.size]? = some (.cells #[.int .u16 i, .int .u8 s, .int .i64 b] 27 (0, 0))) := blk11 hb2 (ext11 X1.out)
      have Y2 : Hid (z2.heap[z1.heap.size]? = some (.cells #[.int .u16 (n / 65536), .int .u8 (n / 256 % 256), .int .i64 (n % 256)] 27 (0, 0))) := blk11 hb2 (at11 _ _ _ rfl)
      have d0 : z2.cell? ⟨w.heap.size, 0, none⟩ = some (.int .u16 i) := by rw [cell_of_row _ _ 0 _ _ _ X2.out]; rfl
      have d1 : z2.cell? ⟨w.heap.size, 1, none⟩ = some (.int .u8 s) := by rw [cell_of_row _ _ 1 _ _ _ X2.out]; rfl
      have d2 : z2.cell? ⟨w.heap.size, 2, none⟩ = some (.int .i64 b) := by rw [cell_of_row _ _ 2 _ _ _ X2.out]; rfl
      have f0 : z2.cell? ⟨z1.heap.size, 0, none⟩ = some (.int .u16 (n / 65536)) := by rw [cell_of_row _ _ 0 _ _ _ Y2.out]; rfl
      have f1 : z2.cell? ⟨z1.heap.size, 1, none⟩ = some (.int .u8 (n / 256 % 256)) := by rw [cell_of_row _ _ 1 _ _ _ Y2.out]; rfl
      have f2 : z2.cell? ⟨z1.heap.size, 2, none⟩ = some (.int .i64 (n % 256)) := by rw [cell_of_row _ _ 2 _ _ _ Y2.out]; rfl
      clear hb2 c0 c1 c2
      go_wp2_with fail
      refine (HM.out _).mono ?_
      rintro e z3 ⟨rfl, hb3⟩
      have B3 : Hid (Below w.heap.size w z3) := Below.andThen B2.out hb3
      clear hb3 d0 d1 d2 f0 f1 f2
      go_wp2_with fail
      refine (HW.out _ B3.out).mono ?_
      rintro e z4 ⟨rfl, hb4⟩
      have B4 : Hid (Below w.heap.size w z4) := Below.andThen B3.out hb4
      clear hb4
      go_wp2_with fail
      go_ret
      exact ⟨rfl, B4.out⟩
#print axioms mappingNumbers_any
section
open Go.ChangeShapes Go.WideShapes Go.ChangeAt
set_option maxRecDepth 100000
theorem wf_u32 {n : Int} (h : (Lit.int .u32 n).wf = true) : 0 ≤ n ∧ n < 4294967296 := by
  simp [Lit.wf, IntKind.min, IntKind.max, IntKind.signed, IntKind.bits] at h
  omega
theorem cell_u8 {w : World} {r : Reach} {b : Nat} {v : Value} (h : Cell.okWide Tryd.prog w r b 5 v) : ∃ n, v = .int .u8 n ∧ 0 ≤ n ∧ n < 256 := by
  unfold Cell.okWide Cell.ok at h
  rw [Tryd.underlying5] at h
  cases v <;> simp at h
  rename_i k n
  obtain ⟨rfl, h⟩ := h
  simp [IntKind.has, IntKind.min, IntKind.max, IntKind.signed, IntKind.bits] at h
  exact ⟨n, rfl, by omega, by omega⟩
theorem cell_u16 {w : World} {r : Reach} {b : Nat} {v : Value} (h : Cell.okWide Tryd.prog w r b 23 v) : ∃ n, v = .int .u16 n ∧ 0 ≤ n ∧ n < 65536 := by
  unfold Cell.okWide Cell.ok at h
  rw [Tryd.underlying23] at h
  cases v <;> simp at h
  rename_i k n
  obtain ⟨rfl, h⟩ := h
  simp [IntKind.has, IntKind.min, IntKind.max, IntKind.signed, IntKind.bits] at h
  exact ⟨n, rfl, by omega, by omega⟩
theorem cell_int {w : World} {r : Reach} {b : Nat} {v : Value} (h : Cell.okWide Tryd.prog w r b 3 v) : ∃ n, v = .int .i64 n := by
  unfold Cell.okWide Cell.ok at h
  rw [Tryd.underlying3] at h
  cases v <;> simp at h
  rename_i k n
  obtain ⟨rfl, _⟩ := h
  exact ⟨n, rfl⟩
theorem typesMp : Tryd.prog.cellTypes Tryd.prog.depth 27 = some [23, 5, 3] := by kernel_rfl
theorem cellsMp : Tryd.prog.cellsOf 27 = 3 := by kernel_rfl
/-- A Map that came in. -/
theorem open_map {w : World} {r : Reach} {b : Nat} {v : Value} (h : Value.okWide Tryd.prog w r b 27 v) : ∃ i s n, v = mpV i s n ∧ (0 ≤ i ∧ i < 65536) ∧ (0 ≤ s ∧ s < 256) := by
  unfold Value.okWide at h
  rw [Tryd.underlying27] at h
  obtain ⟨cs, rfl, hs, ts, ht, _, hc⟩ := h
  rw [typesMp] at ht
  cases ht
  rw [cellsMp] at hs
  obtain ⟨l⟩ := cs
  match l, hs with
  | [c0, c1, c2], _ =>
    obtain ⟨t0, e0, k0⟩ := hc 0 c0 rfl
    obtain ⟨t1, e1, k1⟩ := hc 1 c1 rfl
    obtain ⟨t2, e2, k2⟩ := hc 2 c2 rfl
    cases e0; cases e1; cases e2
    obtain ⟨i, rfl, hi⟩ := cell_u16 k0
    obtain ⟨s, rfl, hs⟩ := cell_u8 k1
    obtain ⟨n, rfl⟩ := cell_int k2
    exact ⟨i, s, n, rfl, hi, hs⟩
end
end Go.Proofs.YteifogeeckomaaaDoor
