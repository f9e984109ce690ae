/-
  Rows of calls that came in, as the rows read them.
-/
import Derived.Test.YtdohjolgcmokhaaFr5
import Derived.WalkKit
import Derived.ProofKit
import Derived.OpenShut
namespace Go.Proofs.Ytdohjolgcmokhaa
open Go.ChangeShapes Go.WideShapes Go.ChangeAt Go.RowKit

theorem cellsOp : Try.prog.cellsOf 34 = 7 := by kernel_rfl
theorem cellsW4 : Try.prog.cellsOf 32 = 4 := by kernel_rfl
theorem cellsB : Try.prog.cellsOf 5 = 1 := by kernel_rfl
theorem cellsI : Try.prog.cellsOf 3 = 1 := by kernel_rfl
theorem wf_b {n : Int} (h : (Lit.int .u8 n).wf = true) : 0 ≤ n ∧ n < 256 := by
  simp [Lit.wf, IntKind.min, IntKind.max, IntKind.signed, IntKind.bits] at h
  omega
theorem wf_i {n : Int} (h : (Lit.int .i64 n).wf = true) : n < 9223372036854775808 := by
  simp [Lit.wf, IntKind.min, IntKind.max, IntKind.signed, IntKind.bits] at h
  omega

/-- One call's cells. -/
theorem open_op {H : Type} {enc : TypeId × Value → H} {w : World} {base : Nat} {spare : Nat → Bool} {held : Bool} {fuel : Nat} {cs : List Value} {y : DataW H × List MemPlace}
    (h : DataW.trod enc Try.prog w base spare held fuel 34 cs = some y) :
    ∃ x : Opv, x.Ok ∧ cs = [.int .u8 x.k, .int .i64 x.A, .int .i64 x.B, .int .u8 x.w0, .int .u8 x.w1, .int .u8 x.w2, .int .u8 x.w3] := by
  obtain ⟨xs, m, _, _, hl, hlen, hf⟩ := DataW.trod_struct Try.underlying34 h
  rw [cellsOp] at hl
  match cs, hl with
  | [c0, c1, c2, c3, c4, c5, c6], _ =>
    have f0 : DataW.trod enc Try.prog w base spare held m 5 (([c0, c1, c2, c3, c4, c5, c6].drop 0).take (Try.prog.cellsOf 5)) = xs[0]? := hf 0 _ rfl
    have f1 : DataW.trod enc Try.prog w base spare held m 3 (([c0, c1, c2, c3, c4, c5, c6].drop 1).take (Try.prog.cellsOf 3)) = xs[1]? := hf 1 _ rfl
    have f2 : DataW.trod enc Try.prog w base spare held m 3 (([c0, c1, c2, c3, c4, c5, c6].drop 2).take (Try.prog.cellsOf 3)) = xs[2]? := hf 2 _ rfl
    have f3 : DataW.trod enc Try.prog w base spare held m 32 (([c0, c1, c2, c3, c4, c5, c6].drop 3).take (Try.prog.cellsOf 32)) = xs[3]? := hf 3 _ rfl
    rw [cellsB] at f0
    rw [cellsI] at f1 f2
    rw [cellsW4] at f3
    match xs, hlen with
    | [y0, y1, y2, y3], _ =>
      obtain ⟨k, e0, _, g0⟩ := DataW.trod_int Try.underlying5 f0
      obtain ⟨A, e1, _, g1⟩ := DataW.trod_int Try.underlying3 f1
      obtain ⟨B, e2, _, _⟩ := DataW.trod_int Try.underlying3 f2
      obtain ⟨ys, m2, _, _, hl2, hlen2, ha⟩ := DataW.trod_array Try.underlying32 f3
      rw [cellsB] at ha
      match ys, hlen2 with
      | [z0, z1, z2, z3], _ =>
        have a0 := ha 0 (by decide)
        have a1 := ha 1 (by decide)
        have a2 := ha 2 (by decide)
        have a3 := ha 3 (by decide)
        obtain ⟨w0, d0, _, q0⟩ := DataW.trod_int Try.underlying5 a0
        obtain ⟨w1, d1, _, q1⟩ := DataW.trod_int Try.underlying5 a1
        obtain ⟨w2, d2, _, q2⟩ := DataW.trod_int Try.underlying5 a2
        obtain ⟨w3, d3, _, q3⟩ := DataW.trod_int Try.underlying5 a3
        simp at e0 e1 e2 d0 d1 d2 d3
        subst e0 e1 e2 d0 d1 d2 d3
        refine ⟨⟨k, A, B, w0, w1, w2, w3⟩, ⟨(wf_b g0).1, (wf_b g0).2, wf_i g1, fun n hn => ?_⟩, rfl⟩
        simp only [List.mem_cons, List.not_mem_nil, or_false] at hn
        rcases hn with rfl | rfl | rfl | rfl
        · exact wf_b q0
        · exact wf_b q1
        · exact wf_b q2
        · exact wf_b q3

/-- A row of calls that came in. -/
theorem open_ops {H : Type} {enc : TypeId × Value → H} {w : World} {base : Nat} {spare : Nat → Bool} {held : Bool} {fuel : Nat} {v : Value} {y : DataW H × List MemPlace}
    (h : DataW.trod enc Try.prog w base spare held fuel 22 [v] = some y) :
    ∃ a len cap l, v = .slice a len cap ∧ IsOps w a len l ∧ len ≤ cap ∧ cap ≤ maxLen := by
  rcases DataW.trod_slice Try.underlying22 h with ⟨h0, _⟩ | ⟨a, len, cap, elems, rest, n, _, h0, _, hb, hl, hm, hlen, hel, hsp, hns⟩
  · cases h0
    exact ⟨none, 0, 0, [], rfl, ⟨rfl, (fun x hx => by cases hx), fun hp => absurd hp (by decide)⟩, Nat.le_refl _, by decide⟩
  · cases h0
    rw [cellsOp] at hel
    have each : ∀ i : Nat, ∃ x : Opv, i < len → x.Ok ∧ ∀ j v, [Value.int .u8 x.k, .int .i64 x.A, .int .i64 x.B, .int .u8 x.w0, .int .u8 x.w1, .int .u8 x.w2, .int .u8 x.w3][j]? = some v → w.cell? ((a.add (i * 7)).add j) = some v := fun i => by
      by_cases hi : i < len
      · have := hel i hi
        rw [List.getElem?_eq_getElem (by omega), Option.bind_eq_some_iff] at this
        obtain ⟨cs, hcs, ht⟩ := this
        obtain ⟨x, hx, rfl⟩ := open_op ht
        refine ⟨x, fun _ => ⟨hx, fun j v hv => ?_⟩⟩
        have hj : j < 7 := (List.getElem?_eq_some_iff.1 hv).1
        rw [(World.cells?_some hcs).2.2 j hj]; exact hv
      · exact ⟨⟨0, 0, 0, 0, 0, 0, 0⟩, fun h => absurd h hi⟩
    obtain ⟨f, hf⟩ := Classical.axiomOfChoice each
    refine ⟨some a, len, cap, (List.range len).map f, rfl, ⟨by simp, fun x hx => ?_, fun hp => ?_⟩, hl, hm⟩
    · obtain ⟨i, hi, rfl⟩ := List.mem_map.1 hx
      exact (hf i (List.mem_range.1 hi)).1
    · obtain ⟨b, off, spot⟩ := a
      have h0 := (hf 0 hp).2 0 _ rfl
      have hs : spot = none := by simpa [Addr.add] using World.cell?_spot h0
      subst hs
      refine ⟨b, off, rfl, fun i x hx => ?_⟩
      obtain ⟨hi, rfl⟩ : i < len ∧ f i = x := by
        rw [List.getElem?_map] at hx
        by_cases hi : i < len
        · rw [List.getElem?_range hi] at hx
          exact ⟨hi, by simpa using hx⟩
        · rw [List.getElem?_eq_none (by simpa using hi)] at hx
          cases hx
      have hc := (hf i hi).2
      simp only [Addr.add_lit] at hc
      exact ⟨by simpa using hc 0 _ rfl, hc 1 _ rfl, hc 2 _ rfl, hc 3 _ rfl, hc 4 _ rfl, hc 5 _ rfl, hc 6 _ rfl⟩
#print axioms open_ops
#print axioms open_op
end Go.Proofs.Ytdohjolgcmokhaa
