/-
  Rows of frames and of numbers that came in, as the rows read them.
-/
import Derived.Test.YtndlpjfofjikeaaCd4
import Derived.Test.YtndlpjfofjikeaaOf
import Derived.WalkKit
import Derived.ProofKit
import Derived.OpenShut
namespace Go.Proofs.Ytndlpjfofjikeaa
open Go.ChangeShapes Go.WideShapes Go.ChangeAt Go.RowKit

theorem cells8 : Try.prog.cellsOf 25 = 8 := by kernel_rfl
theorem cellsB : Try.prog.cellsOf 5 = 1 := by kernel_rfl
theorem cellsI : Try.prog.cellsOf 3 = 1 := by kernel_rfl
theorem cellsU : Try.prog.cellsOf 24 = 1 := by kernel_rfl
theorem cellsW : Try.prog.cellsOf 4 = 1 := by kernel_rfl

set_option maxRecDepth 100000 in
/-- One frame's cells. -/
theorem open_fr {H : Type} {enc : TypeId × Value → H} {w : World} {base : Nat} {spare : Nat → Bool} {held : Bool} {fuel : Nat} {cs : List Value} {y : DataW H × List MemPlace}
    (h : DataW.trod enc Try.prog w base spare held fuel 27 cs = some y) :
    ∃ x : Sn, Oct [x.d0, x.d1, x.d2, x.d3, x.d4, x.d5, x.d6, x.d7] ∧ cs = x.F := by
  obtain ⟨xs, m, _, _, hl, hlen, hf⟩ := DataW.trod_struct Try.underlying27 h
  rw [cellsF] at hl
  match cs, hl with
  | [c0, c1, c2, c3, c4, c5, c6, c7, c8, c9, c10], _ =>
    have f0 : DataW.trod enc Try.prog w base spare held m 24 (([c0, c1, c2, c3, c4, c5, c6, c7, c8, c9, c10].drop 0).take (Try.prog.cellsOf 24)) = xs[0]? := hf 0 _ rfl
    have f1 : DataW.trod enc Try.prog w base spare held m 3 (([c0, c1, c2, c3, c4, c5, c6, c7, c8, c9, c10].drop 1).take (Try.prog.cellsOf 3)) = xs[1]? := hf 1 _ rfl
    have f2 : DataW.trod enc Try.prog w base spare held m 25 (([c0, c1, c2, c3, c4, c5, c6, c7, c8, c9, c10].drop 2).take (Try.prog.cellsOf 25)) = xs[2]? := hf 2 _ rfl
    have f3 : DataW.trod enc Try.prog w base spare held m 4 (([c0, c1, c2, c3, c4, c5, c6, c7, c8, c9, c10].drop 10).take (Try.prog.cellsOf 4)) = xs[3]? := hf 3 _ rfl
    rw [cellsU] at f0
    rw [cellsI] at f1
    rw [cells8] at f2
    rw [cellsW] at f3
    match xs, hlen with
    | [y0, y1, y2, y3], _ =>
      obtain ⟨i, e0, _, _⟩ := DataW.trod_int Try.underlying24 f0
      obtain ⟨n, e1, _, _⟩ := DataW.trod_int Try.underlying3 f1
      obtain ⟨r, e3, _⟩ := DataW.trod_bool Try.underlying4 f3
      obtain ⟨ys, m2, _, _, hl2, hlen2, ha⟩ := DataW.trod_array Try.underlying25 f2
      rw [cellsB] at ha
      match ys, hlen2 with
      | [z0, z1, z2, z3, z4, z5, z6, z7], _ =>
        have a0 := ha 0 (by decide)
        obtain ⟨d0, g0, _, q0⟩ := DataW.trod_int Try.underlying5 a0
        have a1 := ha 1 (by decide)
        obtain ⟨d1, g1, _, q1⟩ := DataW.trod_int Try.underlying5 a1
        have a2 := ha 2 (by decide)
        obtain ⟨d2, g2, _, q2⟩ := DataW.trod_int Try.underlying5 a2
        have a3 := ha 3 (by decide)
        obtain ⟨d3, g3, _, q3⟩ := DataW.trod_int Try.underlying5 a3
        have a4 := ha 4 (by decide)
        obtain ⟨d4, g4, _, q4⟩ := DataW.trod_int Try.underlying5 a4
        have a5 := ha 5 (by decide)
        obtain ⟨d5, g5, _, q5⟩ := DataW.trod_int Try.underlying5 a5
        have a6 := ha 6 (by decide)
        obtain ⟨d6, g6, _, q6⟩ := DataW.trod_int Try.underlying5 a6
        have a7 := ha 7 (by decide)
        obtain ⟨d7, g7, _, q7⟩ := DataW.trod_int Try.underlying5 a7
        simp at e0 e1 e3 g0 g1 g2 g3 g4 g5 g6 g7
        subst e0 e1 e3 g0 g1 g2 g3 g4 g5 g6 g7
        refine ⟨⟨0, i, n, d0, d1, d2, d3, d4, d5, d6, d7, r, 0⟩, fun n hn => ?_, rfl⟩
        simp only [List.mem_cons, List.not_mem_nil, or_false] at hn
        rcases hn with rfl | rfl | rfl | rfl | rfl | rfl | rfl | rfl
        · exact wf_u8 q0
        · exact wf_u8 q1
        · exact wf_u8 q2
        · exact wf_u8 q3
        · exact wf_u8 q4
        · exact wf_u8 q5
        · exact wf_u8 q6
        · exact wf_u8 q7
/-- A row of frames that came in. -/
theorem open_fs {H : Type} {enc : TypeId × Value → H} {w : World} {base : Nat} {spare : Nat → Bool} {held : Bool} {fuel : Nat} {v : Value} {y : DataW H × List MemPlace}
    (h : DataW.trod enc Try.prog w base spare held fuel 52 [v] = some y) :
    ∃ a len cap l, v = .slice a len cap ∧ IsFs w a len l ∧ len ≤ cap ∧ cap ≤ maxLen := by
  rcases DataW.trod_slice Try.underlying52 h with ⟨h0, _⟩ | ⟨a, len, cap, elems, rest, n, _, h0, _, hb, hl, hm, hlen, hel, hsp, hns⟩
  · cases h0
    exact ⟨none, 0, 0, [], rfl, ⟨rfl, (fun x hx => by cases hx), fun hp => absurd hp (by decide)⟩, Nat.le_refl _, by decide⟩
  · cases h0
    rw [cellsF] at hel
    have each : ∀ i : Nat, ∃ x : Sn, i < len → Oct [x.d0, x.d1, x.d2, x.d3, x.d4, x.d5, x.d6, x.d7] ∧ ∀ j v, x.F[j]? = some v → w.cell? ((a.add (i * 11)).add j) = some v := fun i => by
      by_cases hi : i < len
      · have := hel i hi
        rw [List.getElem?_eq_getElem (by omega), Option.bind_eq_some_iff] at this
        obtain ⟨cs, hcs, ht⟩ := this
        obtain ⟨x, hx, rfl⟩ := open_fr ht
        refine ⟨x, fun _ => ⟨hx, fun j v hv => ?_⟩⟩
        have hj : j < 11 := (List.getElem?_eq_some_iff.1 hv).1
        rw [(World.cells?_some hcs).2.2 j hj]; exact hv
      · exact ⟨default, fun h => absurd h hi⟩
    obtain ⟨f, hf⟩ := Classical.axiomOfChoice each
    refine ⟨some a, len, cap, (List.range len).map f, rfl, ⟨by simp, fun x hx => ?_, fun hp => ?_⟩, hl, hm⟩
    · obtain ⟨i, hi, rfl⟩ := List.mem_map.1 hx
      exact (hf i (List.mem_range.1 hi)).1
    · obtain ⟨b, off, spot⟩ := a
      have h0 := (hf 0 hp).2 0 _ rfl
      have hs : spot = none := by simpa [Addr.add] using World.cell?_spot h0
      subst hs
      refine ⟨b, off, rfl, fun i x hx j v hv => ?_⟩
      obtain ⟨hi, rfl⟩ : i < len ∧ f i = x := by
        rw [List.getElem?_map] at hx
        by_cases hi : i < len
        · rw [List.getElem?_range hi] at hx
          exact ⟨hi, by simpa using hx⟩
        · rw [List.getElem?_eq_none (by simpa using hi)] at hx
          cases hx
      have hc := (hf i hi).2 j v hv
      simp only [Addr.add_lit] at hc
      exact hc
/-- A row of numbers that came in. -/
theorem open_ns {H : Type} {enc : TypeId × Value → H} {w : World} {base : Nat} {spare : Nat → Bool} {held : Bool} {fuel : Nat} {v : Value} {y : DataW H × List MemPlace}
    (h : DataW.trod enc Try.prog w base spare held fuel 53 [v] = some y) :
    ∃ a len cap l, v = .slice a len cap ∧ IsNs w a len l ∧ len ≤ cap ∧ cap ≤ maxLen := by
  rcases open_ints Try.underlying53 Try.underlying3 cellsI h with ⟨hcs, _⟩ | ⟨x, l, c, zs, hcs, _, hl, hm, hz, _, hcell, hwz⟩
  · cases hcs
    exact ⟨none, 0, 0, [], rfl, ⟨rfl, fun hp => absurd hp (by decide)⟩, Nat.le_refl _, by decide⟩
  · cases hcs
    have hlz : l ≤ zs.length := by rw [hz]; split <;> omega
    refine ⟨_, l, c, zs.take l, rfl, ⟨by rw [List.length_take]; omega, fun hp => ?_⟩, hl, hm⟩
    obtain ⟨b, off, spot⟩ := x
    have h0 := hcell 0 (by omega)
    have hs : spot = none := by simpa [Addr.add] using World.cell?_spot h0
    subst hs
    refine ⟨b, off, rfl, fun i hi => ?_⟩
    have := hcell i (by omega)
    rw [show (⟨b, off, none⟩ : Addr).add i = ⟨b, off + i, none⟩ from by simp [Addr.add]] at this
    rw [this]
    simp [List.getD_eq_getElem?_getD, hi]
#print axioms open_fs
#print axioms open_ns
end Go.Proofs.Ytndlpjfofjikeaa
