/-
  Rows of calls, and frames, that came in, as the rows read them.
-/
import Derived.Test.YtnbdnmfnmnboiaaZu
import Derived.WalkKit
import Derived.ProofKit
import Derived.OpenShut
namespace Go.Proofs.Ytnbdnmfnmnboiaa
open Go.ChangeShapes Go.WideShapes Go.ChangeAt Go.RowKit

/-- A row of calls in memory. -/
structure IsOpx (w : World) (a : Option Addr) (len : Nat) (l : List Opx) : Prop where
  size : l.length = len
  good : ∀ x ∈ l, x.Ok
  at_ : 0 < len → ∃ b off, a = some ⟨b, off, none⟩ ∧ ∀ (i : Nat) (x : Opx), l[i]? = some x → ∀ j v, x.C[j]? = some v → w.cell? ⟨b, off + i * 9 + j, none⟩ = some v
theorem IsOpx.next {w w' : World} {a : Option Addr} {len : Nat} {l : List Opx} (h : IsOpx w a len l) (hb : Below w.heap.size w w') : IsOpx w' a len l where
  size := h.size
  good := h.good
  at_ := fun hp => by
    obtain ⟨b, off, e, hc⟩ := h.at_ hp
    exact ⟨b, off, e, fun i x hx j v hv => cl11 hb (hc i x hx j v hv)⟩
theorem wf_o {n : Int} (h : (Lit.int .u8 n).wf = true) : 0 ≤ n ∧ n < 256 := by
  simp [Lit.wf, IntKind.min, IntKind.max, IntKind.signed, IntKind.bits] at h
  omega
theorem wf_u16 {n : Int} (h : (Lit.int .u16 n).wf = true) : 0 ≤ n ∧ n < 65536 := by
  simp [Lit.wf, IntKind.min, IntKind.max, IntKind.signed, IntKind.bits] at h
  omega
theorem wf_i64 {n : Int} (h : (Lit.int .i64 n).wf = true) : -9223372036854775808 ≤ n ∧ n < 9223372036854775808 := by
  simp [Lit.wf, IntKind.min, IntKind.max, IntKind.signed, IntKind.bits] at h
  omega

set_option maxRecDepth 100000 in
theorem cell_u8 {w : World} {r : Reach} {b : Nat} {v : Value} (h : Cell.okWide Try.prog w r b 5 v) : ∃ n, v = .int .u8 n ∧ 0 ≤ n ∧ n < 256 := by
  unfold Cell.okWide Cell.ok at h
  rw [Try.underlying5] at h
  cases v <;> simp at h
  rename_i k n
  obtain ⟨rfl, h⟩ := h
  simp [IntKind.has, IntKind.min, IntKind.max, IntKind.signed, IntKind.bits] at h
  exact ⟨n, rfl, by omega, by omega⟩
set_option maxRecDepth 100000 in
theorem cell_u16 {w : World} {r : Reach} {b : Nat} {v : Value} (h : Cell.okWide Try.prog w r b 32 v) : ∃ n, v = .int .u16 n ∧ 0 ≤ n := by
  unfold Cell.okWide Cell.ok at h
  rw [Try.underlying32] at h
  cases v <;> simp at h
  rename_i k n
  obtain ⟨rfl, h⟩ := h
  simp [IntKind.has, IntKind.min, IntKind.max, IntKind.signed, IntKind.bits] at h
  exact ⟨n, rfl, by omega⟩
set_option maxRecDepth 100000 in
theorem cell_int {w : World} {r : Reach} {b : Nat} {v : Value} (h : Cell.okWide Try.prog w r b 3 v) : ∃ n, v = .int .i64 n := by
  unfold Cell.okWide Cell.ok at h
  rw [Try.underlying3] at h
  cases v <;> simp at h
  rename_i k n
  obtain ⟨rfl, _⟩ := h
  exact ⟨n, rfl⟩
set_option maxRecDepth 100000 in
theorem cell_bool {w : World} {r : Reach} {b : Nat} {v : Value} (h : Cell.okWide Try.prog w r b 4 v) : ∃ q, v = .bool q := by
  unfold Cell.okWide Cell.ok at h
  rw [Try.underlying4] at h
  cases v <;> simp at h
  exact ⟨_, rfl⟩

set_option maxRecDepth 100000 in
theorem typesF : Try.prog.cellTypes Try.prog.depth 40 = some [32, 3, 5, 5, 5, 5, 5, 5, 5, 5, 4] := by kernel_rfl
theorem cells8 : Try.prog.cellsOf 38 = 8 := by kernel_rfl
theorem cellsB : Try.prog.cellsOf 5 = 1 := by kernel_rfl
theorem cellsI : Try.prog.cellsOf 3 = 1 := by kernel_rfl
theorem cellsJ : Try.prog.cellsOf 2 = 1 := by kernel_rfl
theorem cellsU : Try.prog.cellsOf 32 = 1 := by kernel_rfl
theorem cellsW : Try.prog.cellsOf 4 = 1 := by kernel_rfl
theorem cellsOp : Try.prog.cellsOf 35 = 9 := by kernel_rfl
theorem cells5 : Try.prog.cellsOf 33 = 5 := by kernel_rfl
set_option maxRecDepth 100000 in
theorem cellsF : Try.prog.cellsOf 40 = 11 := by kernel_rfl

set_option maxRecDepth 100000 in
/-- A frame that came in. -/
theorem open_frame {w : World} {r : Reach} {b : Nat} {v : Value} (h : Value.okWide Try.prog w r b 40 v) : ∃ i n d0 d1 d2 d3 d4 d5 d6 d7 q, v = frV i n d0 d1 d2 d3 d4 d5 d6 d7 q ∧ 0 ≤ i ∧ Oct [d0, d1, d2, d3, d4, d5, d6, d7] := by
  unfold Value.okWide at h
  rw [Try.underlying40] at h
  obtain ⟨cs, rfl, hs, ts, ht, _, hc⟩ := h
  rw [typesF] at ht
  cases ht
  rw [cellsF] at hs
  obtain ⟨l⟩ := cs
  match l, hs with
  | [c0, c1, c2, c3, c4, c5, c6, c7, c8, c9, c10], _ =>
    obtain ⟨u0, e0, k0⟩ := hc 0 c0 rfl
    obtain ⟨u1, e1, k1⟩ := hc 1 c1 rfl
    obtain ⟨u2, e2, k2⟩ := hc 2 c2 rfl
    obtain ⟨u3, e3, k3⟩ := hc 3 c3 rfl
    obtain ⟨u4, e4, k4⟩ := hc 4 c4 rfl
    obtain ⟨u5, e5, k5⟩ := hc 5 c5 rfl
    obtain ⟨u6, e6, k6⟩ := hc 6 c6 rfl
    obtain ⟨u7, e7, k7⟩ := hc 7 c7 rfl
    obtain ⟨u8, e8, k8⟩ := hc 8 c8 rfl
    obtain ⟨u9, e9, k9⟩ := hc 9 c9 rfl
    obtain ⟨u10, e10, k10⟩ := hc 10 c10 rfl
    cases e0; cases e1; cases e2; cases e3; cases e4; cases e5; cases e6; cases e7; cases e8; cases e9; cases e10
    obtain ⟨i, rfl, hi⟩ := cell_u16 k0
    obtain ⟨n, rfl⟩ := cell_int k1
    obtain ⟨d0, rfl, b0⟩ := cell_u8 k2
    obtain ⟨d1, rfl, b1⟩ := cell_u8 k3
    obtain ⟨d2, rfl, b2⟩ := cell_u8 k4
    obtain ⟨d3, rfl, b3⟩ := cell_u8 k5
    obtain ⟨d4, rfl, b4⟩ := cell_u8 k6
    obtain ⟨d5, rfl, b5⟩ := cell_u8 k7
    obtain ⟨d6, rfl, b6⟩ := cell_u8 k8
    obtain ⟨d7, rfl, b7⟩ := cell_u8 k9
    obtain ⟨q, rfl⟩ := cell_bool k10
    refine ⟨i, n, d0, d1, d2, d3, d4, d5, d6, d7, q, rfl, hi, fun x hx => ?_⟩
    simp only [List.mem_cons, List.not_mem_nil, or_false] at hx
    rcases hx with rfl | rfl | rfl | rfl | rfl | rfl | rfl | rfl <;> assumption
set_option maxRecDepth 100000 in
/-- One call's cells. -/
theorem open_op {H : Type} {enc : TypeId × Value → H} {w : World} {base : Nat} {spare : Nat → Bool} {held : Bool} {fuel : Nat} {cs : List Value} {y : DataW H × List MemPlace}
    (h : DataW.trod enc Try.prog w base spare held fuel 35 cs = some y) :
    ∃ x : Opx, x.Ok ∧ cs = x.C := by
  obtain ⟨xs, m, _, _, hl, hlen, hf⟩ := DataW.trod_struct Try.underlying35 h
  rw [cellsOp] at hl
  match cs, hl with
  | [c0, c1, c2, c3, c4, c5, c6, c7, c8], _ =>
    have f0 : DataW.trod enc Try.prog w base spare held m 5 (([c0, c1, c2, c3, c4, c5, c6, c7, c8].drop 0).take (Try.prog.cellsOf 5)) = xs[0]? := hf 0 _ rfl
    have f1 : DataW.trod enc Try.prog w base spare held m 32 (([c0, c1, c2, c3, c4, c5, c6, c7, c8].drop 1).take (Try.prog.cellsOf 32)) = xs[1]? := hf 1 _ rfl
    have f2 : DataW.trod enc Try.prog w base spare held m 5 (([c0, c1, c2, c3, c4, c5, c6, c7, c8].drop 2).take (Try.prog.cellsOf 5)) = xs[2]? := hf 2 _ rfl
    have f3 : DataW.trod enc Try.prog w base spare held m 33 (([c0, c1, c2, c3, c4, c5, c6, c7, c8].drop 3).take (Try.prog.cellsOf 33)) = xs[3]? := hf 3 _ rfl
    have f4 : DataW.trod enc Try.prog w base spare held m 2 (([c0, c1, c2, c3, c4, c5, c6, c7, c8].drop 8).take (Try.prog.cellsOf 2)) = xs[4]? := hf 4 _ rfl
    rw [cellsB] at f0 f2
    rw [cellsU] at f1
    rw [cells5] at f3
    rw [cellsJ] at f4
    match xs, hlen with
    | [y0, y1, y2, y3, y4], _ =>
      obtain ⟨k, e0, _, q0⟩ := DataW.trod_int Try.underlying5 f0
      obtain ⟨c, e1, _, q1⟩ := DataW.trod_int Try.underlying32 f1
      obtain ⟨b, e2, _, q2⟩ := DataW.trod_int Try.underlying5 f2
      obtain ⟨ys, m2, _, _, hl2, hlen2, ha⟩ := DataW.trod_array Try.underlying33 f3
      obtain ⟨now, e4, _, _⟩ := DataW.trod_int Try.underlying2 f4
      rw [cellsB] at ha
      match ys, hlen2 with
      | [z0, z1, z2, z3, z4], _ =>
        have a0 := ha 0 (by decide)
        obtain ⟨d0, g0, _, p0⟩ := DataW.trod_int Try.underlying5 a0
        have a1 := ha 1 (by decide)
        obtain ⟨d1, g1, _, p1⟩ := DataW.trod_int Try.underlying5 a1
        have a2 := ha 2 (by decide)
        obtain ⟨d2, g2, _, p2⟩ := DataW.trod_int Try.underlying5 a2
        have a3 := ha 3 (by decide)
        obtain ⟨d3, g3, _, p3⟩ := DataW.trod_int Try.underlying5 a3
        have a4 := ha 4 (by decide)
        obtain ⟨d4, g4, _, p4⟩ := DataW.trod_int Try.underlying5 a4
        simp at e0 e1 e2 e4 g0 g1 g2 g3 g4
        subst e0 e1 e2 e4 g0 g1 g2 g3 g4
        have qb := wf_o q2
        refine ⟨⟨k, c, b.toNat, d0, d1, d2, d3, d4, now⟩, ⟨(wf_o q0).1, (wf_o q0).2, wf_u16 q1, fun n hn => ?_⟩, ?_⟩
        · simp only [List.mem_cons, List.not_mem_nil, or_false] at hn
          rcases hn with rfl | rfl | rfl | rfl | rfl
          · exact wf_o p0
          · exact wf_o p1
          · exact wf_o p2
          · exact wf_o p3
          · exact wf_o p4
        · simp [Opx.C, Int.toNat_of_nonneg qb.1]
/-- A row of calls that came in. -/
theorem open_ops {H : Type} {enc : TypeId × Value → H} {w : World} {base : Nat} {spare : Nat → Bool} {held : Bool} {fuel : Nat} {v : Value} {y : DataW H × List MemPlace}
    (h : DataW.trod enc Try.prog w base spare held fuel 22 [v] = some y) :
    ∃ a len cap l, v = .slice a len cap ∧ IsOpx w a len l ∧ len ≤ cap ∧ cap ≤ maxLen := by
  rcases DataW.trod_slice Try.underlying22 h with ⟨h0, _⟩ | ⟨a, len, cap, elems, rest, n, _, h0, _, hb, hl, hm, hlen, hel, hsp, hns⟩
  · cases h0
    exact ⟨none, 0, 0, [], rfl, ⟨rfl, (fun x hx => by cases hx), fun hp => absurd hp (by decide)⟩, Nat.le_refl _, by decide⟩
  · cases h0
    rw [cellsOp] at hel
    have each : ∀ i : Nat, ∃ x : Opx, i < len → x.Ok ∧ ∀ j v, x.C[j]? = some v → w.cell? ((a.add (i * 9)).add j) = some v := fun i => by
      by_cases hi : i < len
      · have := hel i hi
        rw [List.getElem?_eq_getElem (by omega), Option.bind_eq_some_iff] at this
        obtain ⟨cs, hcs, ht⟩ := this
        obtain ⟨x, hx, rfl⟩ := open_op ht
        refine ⟨x, fun _ => ⟨hx, fun j v hv => ?_⟩⟩
        have hj : j < 9 := (List.getElem?_eq_some_iff.1 hv).1
        rw [(World.cells?_some hcs).2.2 j hj]; exact hv
      · exact ⟨⟨0, 0, 0, 0, 0, 0, 0, 0, 0⟩, fun h => absurd h hi⟩
    obtain ⟨f, hf⟩ := Classical.axiomOfChoice each
    refine ⟨some a, len, cap, (List.range len).map f, rfl, ⟨by simp, fun x hx => ?_, fun hp => ?_⟩, hl, hm⟩
    · obtain ⟨i, hi, rfl⟩ := List.mem_map.1 hx
      exact (hf i (List.mem_range.1 hi)).1
    · obtain ⟨b, off, spot⟩ := a
      have h0 := (hf 0 hp).2 0 _ rfl
      have hs : spot = none := by simpa [Addr.add] using World.cell?_spot h0
      subst hs
      refine ⟨b, off, rfl, fun i x hx j v hv => ?_⟩
      obtain ⟨hi, rfl⟩ : i < len ∧ f i = x := by
        rw [List.getElem?_map] at hx
        by_cases hi : i < len
        · rw [List.getElem?_range hi] at hx
          exact ⟨hi, by simpa using hx⟩
        · rw [List.getElem?_eq_none (by simpa using hi)] at hx
          cases hx
      have hc := (hf i hi).2 j v hv
      simpa only [Addr.add_lit] using hc
#print axioms open_ops
#print axioms open_frame
end Go.Proofs.Ytnbdnmfnmnboiaa
