/-
  Rows of beats, of calls and of steps that came in, as the rows read them.
-/
import Derived.Test.YtjdfacjfpdfafaaIa
import Derived.WalkKit
import Derived.ProofKit
import Derived.OpenShut
namespace Go.Proofs.Ytjdfacjfpdfafaa
open Go.ChangeShapes Go.WideShapes Go.ChangeAt Go.RowKit

/-- A frame. -/
structure Hx where
  i : Int
  n : Int
  d0 : Int
  d1 : Int
  d2 : Int
  d3 : Int
  d4 : Int
  d5 : Int
  d6 : Int
  d7 : Int
  r : Bool
  now : Int
deriving Inhabited
def Hx.F (x : Hx) : List Value := [.int .u16 x.i, .int .i64 x.n, .int .u8 x.d0, .int .u8 x.d1, .int .u8 x.d2, .int .u8 x.d3, .int .u8 x.d4, .int .u8 x.d5, .int .u8 x.d6, .int .u8 x.d7, .bool x.r]
theorem wf_o {n : Int} (h : (Lit.int .u8 n).wf = true) : 0 ≤ n ∧ n < 256 := by
  simp [Lit.wf, IntKind.min, IntKind.max, IntKind.signed, IntKind.bits] at h
  omega
theorem wf_u16 {n : Int} (h : (Lit.int .u16 n).wf = true) : 0 ≤ n ∧ n < 65536 := by
  simp [Lit.wf, IntKind.min, IntKind.max, IntKind.signed, IntKind.bits] at h
  omega
theorem wf_u32 {n : Int} (h : (Lit.int .u32 n).wf = true) : 0 ≤ n ∧ n < 4294967296 := by
  simp [Lit.wf, IntKind.min, IntKind.max, IntKind.signed, IntKind.bits] at h
  omega
theorem wf_i64 {n : Int} (h : (Lit.int .i64 n).wf = true) : -9223372036854775808 ≤ n ∧ n < 9223372036854775808 := by
  simp [Lit.wf, IntKind.min, IntKind.max, IntKind.signed, IntKind.bits] at h
  omega

set_option maxRecDepth 100000 in
theorem cell_u8 {w : World} {r : Reach} {b : Nat} {v : Value} (h : Cell.okWide Try.prog w r b 5 v) : ∃ n, v = .int .u8 n ∧ 0 ≤ n ∧ n < 256 := by
  unfold Cell.okWide Cell.ok at h
  rw [Try.underlying5] at h
  cases v <;> simp at h
  rename_i k n
  obtain ⟨rfl, h⟩ := h
  simp [IntKind.has, IntKind.min, IntKind.max, IntKind.signed, IntKind.bits] at h
  exact ⟨n, rfl, by omega, by omega⟩
set_option maxRecDepth 100000 in
theorem cell_u16 {w : World} {r : Reach} {b : Nat} {v : Value} (h : Cell.okWide Try.prog w r b 34 v) : ∃ n, v = .int .u16 n ∧ 0 ≤ n := by
  unfold Cell.okWide Cell.ok at h
  rw [Try.underlying34] at h
  cases v <;> simp at h
  rename_i k n
  obtain ⟨rfl, h⟩ := h
  simp [IntKind.has, IntKind.min, IntKind.max, IntKind.signed, IntKind.bits] at h
  exact ⟨n, rfl, by omega⟩
set_option maxRecDepth 100000 in
theorem cell_int {w : World} {r : Reach} {b : Nat} {v : Value} (h : Cell.okWide Try.prog w r b 3 v) : ∃ n, v = .int .i64 n := by
  unfold Cell.okWide Cell.ok at h
  rw [Try.underlying3] at h
  cases v <;> simp at h
  rename_i k n
  obtain ⟨rfl, _⟩ := h
  exact ⟨n, rfl⟩
set_option maxRecDepth 100000 in
theorem cell_bool {w : World} {r : Reach} {b : Nat} {v : Value} (h : Cell.okWide Try.prog w r b 4 v) : ∃ q, v = .bool q := by
  unfold Cell.okWide Cell.ok at h
  rw [Try.underlying4] at h
  cases v <;> simp at h
  exact ⟨_, rfl⟩

set_option maxRecDepth 100000 in
theorem typesF : Try.prog.cellTypes Try.prog.depth 37 = some [34, 3, 5, 5, 5, 5, 5, 5, 5, 5, 4] := by kernel_rfl
theorem cells8 : Try.prog.cellsOf 35 = 8 := by kernel_rfl
theorem cellsB : Try.prog.cellsOf 5 = 1 := by kernel_rfl
theorem cellsI : Try.prog.cellsOf 3 = 1 := by kernel_rfl
theorem cellsJ : Try.prog.cellsOf 2 = 1 := by kernel_rfl
theorem cellsU : Try.prog.cellsOf 34 = 1 := by kernel_rfl
theorem cellsW : Try.prog.cellsOf 4 = 1 := by kernel_rfl
set_option maxRecDepth 100000 in
theorem cellsF : Try.prog.cellsOf 37 = 11 := by kernel_rfl

set_option maxRecDepth 100000 in
/-- One frame's cells. -/
theorem open_fr {H : Type} {enc : TypeId × Value → H} {w : World} {base : Nat} {spare : Nat → Bool} {held : Bool} {fuel : Nat} {cs : List Value} {y : DataW H × List MemPlace}
    (h : DataW.trod enc Try.prog w base spare held fuel 37 cs = some y) :
    ∃ x : Hx, (Oct [x.d0, x.d1, x.d2, x.d3, x.d4, x.d5, x.d6, x.d7] ∧ 0 ≤ x.i ∧ x.i < 65536) ∧ cs = x.F := by
  obtain ⟨xs, m, _, _, hl, hlen, hf⟩ := DataW.trod_struct Try.underlying37 h
  rw [cellsF] at hl
  match cs, hl with
  | [c0, c1, c2, c3, c4, c5, c6, c7, c8, c9, c10], _ =>
    have f0 : DataW.trod enc Try.prog w base spare held m 34 (([c0, c1, c2, c3, c4, c5, c6, c7, c8, c9, c10].drop 0).take (Try.prog.cellsOf 34)) = xs[0]? := hf 0 _ rfl
    have f1 : DataW.trod enc Try.prog w base spare held m 3 (([c0, c1, c2, c3, c4, c5, c6, c7, c8, c9, c10].drop 1).take (Try.prog.cellsOf 3)) = xs[1]? := hf 1 _ rfl
    have f2 : DataW.trod enc Try.prog w base spare held m 35 (([c0, c1, c2, c3, c4, c5, c6, c7, c8, c9, c10].drop 2).take (Try.prog.cellsOf 35)) = xs[2]? := hf 2 _ rfl
    have f3 : DataW.trod enc Try.prog w base spare held m 4 (([c0, c1, c2, c3, c4, c5, c6, c7, c8, c9, c10].drop 10).take (Try.prog.cellsOf 4)) = xs[3]? := hf 3 _ rfl
    rw [cellsU] at f0
    rw [cellsI] at f1
    rw [cells8] at f2
    rw [cellsW] at f3
    match xs, hlen with
    | [y0, y1, y2, y3], _ =>
      obtain ⟨i, e0, _, gi⟩ := DataW.trod_int Try.underlying34 f0
      obtain ⟨n, e1, _, _⟩ := DataW.trod_int Try.underlying3 f1
      obtain ⟨r, e3, _⟩ := DataW.trod_bool Try.underlying4 f3
      obtain ⟨ys, m2, _, _, hl2, hlen2, ha⟩ := DataW.trod_array Try.underlying35 f2
      rw [cellsB] at ha
      match ys, hlen2 with
      | [z0, z1, z2, z3, z4, z5, z6, z7], _ =>
        have a0 := ha 0 (by decide)
        obtain ⟨d0, g0, _, q0⟩ := DataW.trod_int Try.underlying5 a0
        have a1 := ha 1 (by decide)
        obtain ⟨d1, g1, _, q1⟩ := DataW.trod_int Try.underlying5 a1
        have a2 := ha 2 (by decide)
        obtain ⟨d2, g2, _, q2⟩ := DataW.trod_int Try.underlying5 a2
        have a3 := ha 3 (by decide)
        obtain ⟨d3, g3, _, q3⟩ := DataW.trod_int Try.underlying5 a3
        have a4 := ha 4 (by decide)
        obtain ⟨d4, g4, _, q4⟩ := DataW.trod_int Try.underlying5 a4
        have a5 := ha 5 (by decide)
        obtain ⟨d5, g5, _, q5⟩ := DataW.trod_int Try.underlying5 a5
        have a6 := ha 6 (by decide)
        obtain ⟨d6, g6, _, q6⟩ := DataW.trod_int Try.underlying5 a6
        have a7 := ha 7 (by decide)
        obtain ⟨d7, g7, _, q7⟩ := DataW.trod_int Try.underlying5 a7
        simp at e0 e1 e3 g0 g1 g2 g3 g4 g5 g6 g7
        subst e0 e1 e3 g0 g1 g2 g3 g4 g5 g6 g7
        refine ⟨⟨i, n, d0, d1, d2, d3, d4, d5, d6, d7, r, 0⟩, ⟨fun n hn => ?_, wf_u16 gi⟩, rfl⟩
        simp only [List.mem_cons, List.not_mem_nil, or_false] at hn
        rcases hn with rfl | rfl | rfl | rfl | rfl | rfl | rfl | rfl
        · exact wf_o q0
        · exact wf_o q1
        · exact wf_o q2
        · exact wf_o q3
        · exact wf_o q4
        · exact wf_o q5
        · exact wf_o q6
        · exact wf_o q7
/-- What came in. -/
structure Bx where
  k : Int
  N : Int
  now : Int
  s : Int
deriving Inhabited
def Bx.C (x : Bx) : List Value := [.int .u8 x.k, .int .i64 x.N, .int .i64 x.now, .int .u8 x.s]
def Bx.Ok (x : Bx) : Prop := (0 ≤ x.k ∧ x.k < 256) ∧ (0 ≤ x.s ∧ x.s < 256)
structure IsBx (w : World) (a : Option Addr) (len : Nat) (l : List Bx) : Prop where
  size : l.length = len
  good : ∀ x ∈ l, x.Ok
  at_ : 0 < len → ∃ b off, a = some ⟨b, off, none⟩ ∧ ∀ (i : Nat) (x : Bx), l[i]? = some x → ∀ j v, x.C[j]? = some v → w.cell? ⟨b, off + i * 4 + j, none⟩ = some v
theorem IsBx.next {w w' : World} {a : Option Addr} {len : Nat} {l : List Bx} (h : IsBx w a len l) (hb : Below w.heap.size w w') : IsBx w' a len l where
  size := h.size
  good := h.good
  at_ := fun hp => by
    obtain ⟨b, off, e, hc⟩ := h.at_ hp
    exact ⟨b, off, e, fun i x hx j v hv => cl11 hb (hc i x hx j v hv)⟩
theorem cellsBx : Try.prog.cellsOf 32 = 4 := by kernel_rfl
set_option maxRecDepth 100000 in
theorem open_bs1 {H : Type} {enc : TypeId × Value → H} {w : World} {base : Nat} {spare : Nat → Bool} {held : Bool} {fuel : Nat} {cs : List Value} {y : DataW H × List MemPlace}
    (h : DataW.trod enc Try.prog w base spare held fuel 32 cs = some y) :
    ∃ x : Bx, x.Ok ∧ cs = x.C := by
  obtain ⟨xs, m, _, _, hl, hlen, hf⟩ := DataW.trod_struct Try.underlying32 h
  rw [cellsBx] at hl
  match cs, hl with
  | [c0, c1, c2, c3], _ =>
    have f0 : DataW.trod enc Try.prog w base spare held m 5 (([c0, c1, c2, c3].drop 0).take (Try.prog.cellsOf 5)) = xs[0]? := hf 0 _ rfl
    have f1 : DataW.trod enc Try.prog w base spare held m 2 (([c0, c1, c2, c3].drop 1).take (Try.prog.cellsOf 2)) = xs[1]? := hf 1 _ rfl
    have f2 : DataW.trod enc Try.prog w base spare held m 2 (([c0, c1, c2, c3].drop 2).take (Try.prog.cellsOf 2)) = xs[2]? := hf 2 _ rfl
    have f3 : DataW.trod enc Try.prog w base spare held m 5 (([c0, c1, c2, c3].drop 3).take (Try.prog.cellsOf 5)) = xs[3]? := hf 3 _ rfl
    rw [cellsB] at f0
    rw [cellsJ] at f1
    rw [cellsJ] at f2
    rw [cellsB] at f3
    match xs, hlen with
    | [y0, y1, y2, y3], _ =>
      obtain ⟨v0, e0, _, g0⟩ := DataW.trod_int Try.underlying5 f0
      obtain ⟨v1, e1, _, g1⟩ := DataW.trod_int Try.underlying2 f1
      obtain ⟨v2, e2, _, g2⟩ := DataW.trod_int Try.underlying2 f2
      obtain ⟨v3, e3, _, g3⟩ := DataW.trod_int Try.underlying5 f3
      simp at e0
      subst e0
      simp at e1
      subst e1
      simp at e2
      subst e2
      simp at e3
      subst e3
      exact ⟨⟨v0, v1, v2, v3⟩, ⟨wf_o g0, wf_o g3⟩, rfl⟩
/-- A row that came in. -/
theorem open_bs {H : Type} {enc : TypeId × Value → H} {w : World} {base : Nat} {spare : Nat → Bool} {held : Bool} {fuel : Nat} {v : Value} {y : DataW H × List MemPlace}
    (h : DataW.trod enc Try.prog w base spare held fuel 22 [v] = some y) :
    ∃ a len cap l, v = .slice a len cap ∧ IsBx w a len l ∧ len ≤ cap ∧ cap ≤ maxLen := by
  rcases DataW.trod_slice Try.underlying22 h with ⟨h0, _⟩ | ⟨a, len, cap, elems, rest, n, _, h0, _, hb, hl, hm, hlen, hel, hsp, hns⟩
  · cases h0
    exact ⟨none, 0, 0, [], rfl, ⟨rfl, (fun x hx => by cases hx), fun hp => absurd hp (by decide)⟩, Nat.le_refl _, by decide⟩
  · cases h0
    rw [cellsBx] at hel
    have each : ∀ i : Nat, ∃ x : Bx, i < len → x.Ok ∧ ∀ j v, x.C[j]? = some v → w.cell? ((a.add (i * 4)).add j) = some v := fun i => by
      by_cases hi : i < len
      · have := hel i hi
        rw [List.getElem?_eq_getElem (by omega), Option.bind_eq_some_iff] at this
        obtain ⟨cs, hcs, ht⟩ := this
        obtain ⟨x, hx, rfl⟩ := open_bs1 ht
        refine ⟨x, fun _ => ⟨hx, fun j v hv => ?_⟩⟩
        have hj : j < 4 := (List.getElem?_eq_some_iff.1 hv).1
        rw [(World.cells?_some hcs).2.2 j hj]; exact hv
      · exact ⟨default, fun h => absurd h hi⟩
    obtain ⟨f, hf⟩ := Classical.axiomOfChoice each
    refine ⟨some a, len, cap, (List.range len).map f, rfl, ⟨by simp, fun x hx => ?_, fun hp => ?_⟩, hl, hm⟩
    · obtain ⟨i, hi, rfl⟩ := List.mem_map.1 hx
      exact (hf i (List.mem_range.1 hi)).1
    · obtain ⟨b, off, spot⟩ := a
      have h0 := (hf 0 hp).2 0 _ rfl
      have hs : spot = none := by simpa [Addr.add] using World.cell?_spot h0
      subst hs
      refine ⟨b, off, rfl, fun i x hx j v hv => ?_⟩
      obtain ⟨hi, rfl⟩ : i < len ∧ f i = x := by
        rw [List.getElem?_map] at hx
        by_cases hi : i < len
        · rw [List.getElem?_range hi] at hx
          exact ⟨hi, by simpa using hx⟩
        · rw [List.getElem?_eq_none (by simpa using hi)] at hx
          cases hx
      have hc := (hf i hi).2 j v hv
      simp only [Addr.add_lit] at hc
      exact hc
/-- What came in. -/
structure Ox where
  k : Int
  nd : Int
  st : Int
  N : Int
  now : Int
  F : Hx
deriving Inhabited
def Ox.C (x : Ox) : List Value := [.int .u8 x.k, .int .u8 x.nd, .int .u8 x.st, .int .i64 x.N, .int .i64 x.now] ++ x.F.F
def Ox.Ok (x : Ox) : Prop := (0 ≤ x.k ∧ x.k < 256) ∧ (0 ≤ x.nd ∧ x.nd < 256) ∧ (0 ≤ x.st ∧ x.st < 256) ∧ (Oct [x.F.d0, x.F.d1, x.F.d2, x.F.d3, x.F.d4, x.F.d5, x.F.d6, x.F.d7] ∧ 0 ≤ x.F.i ∧ x.F.i < 65536)
structure IsOx (w : World) (a : Option Addr) (len : Nat) (l : List Ox) : Prop where
  size : l.length = len
  good : ∀ x ∈ l, x.Ok
  at_ : 0 < len → ∃ b off, a = some ⟨b, off, none⟩ ∧ ∀ (i : Nat) (x : Ox), l[i]? = some x → ∀ j v, x.C[j]? = some v → w.cell? ⟨b, off + i * 16 + j, none⟩ = some v
theorem IsOx.next {w w' : World} {a : Option Addr} {len : Nat} {l : List Ox} (h : IsOx w a len l) (hb : Below w.heap.size w w') : IsOx w' a len l where
  size := h.size
  good := h.good
  at_ := fun hp => by
    obtain ⟨b, off, e, hc⟩ := h.at_ hp
    exact ⟨b, off, e, fun i x hx j v hv => cl11 hb (hc i x hx j v hv)⟩
theorem cellsOx : Try.prog.cellsOf 51 = 16 := by kernel_rfl
set_option maxRecDepth 100000 in
theorem open_os1 {H : Type} {enc : TypeId × Value → H} {w : World} {base : Nat} {spare : Nat → Bool} {held : Bool} {fuel : Nat} {cs : List Value} {y : DataW H × List MemPlace}
    (h : DataW.trod enc Try.prog w base spare held fuel 51 cs = some y) :
    ∃ x : Ox, x.Ok ∧ cs = x.C := by
  obtain ⟨xs, m, _, _, hl, hlen, hf⟩ := DataW.trod_struct Try.underlying51 h
  rw [cellsOx] at hl
  match cs, hl with
  | [c0, c1, c2, c3, c4, c5, c6, c7, c8, c9, c10, c11, c12, c13, c14, c15], _ =>
    have f0 : DataW.trod enc Try.prog w base spare held m 5 (([c0, c1, c2, c3, c4, c5, c6, c7, c8, c9, c10, c11, c12, c13, c14, c15].drop 0).take (Try.prog.cellsOf 5)) = xs[0]? := hf 0 _ rfl
    have f1 : DataW.trod enc Try.prog w base spare held m 5 (([c0, c1, c2, c3, c4, c5, c6, c7, c8, c9, c10, c11, c12, c13, c14, c15].drop 1).take (Try.prog.cellsOf 5)) = xs[1]? := hf 1 _ rfl
    have f2 : DataW.trod enc Try.prog w base spare held m 5 (([c0, c1, c2, c3, c4, c5, c6, c7, c8, c9, c10, c11, c12, c13, c14, c15].drop 2).take (Try.prog.cellsOf 5)) = xs[2]? := hf 2 _ rfl
    have f3 : DataW.trod enc Try.prog w base spare held m 2 (([c0, c1, c2, c3, c4, c5, c6, c7, c8, c9, c10, c11, c12, c13, c14, c15].drop 3).take (Try.prog.cellsOf 2)) = xs[3]? := hf 3 _ rfl
    have f4 : DataW.trod enc Try.prog w base spare held m 2 (([c0, c1, c2, c3, c4, c5, c6, c7, c8, c9, c10, c11, c12, c13, c14, c15].drop 4).take (Try.prog.cellsOf 2)) = xs[4]? := hf 4 _ rfl
    have f5 : DataW.trod enc Try.prog w base spare held m 37 (([c0, c1, c2, c3, c4, c5, c6, c7, c8, c9, c10, c11, c12, c13, c14, c15].drop 5).take (Try.prog.cellsOf 37)) = xs[5]? := hf 5 _ rfl
    rw [cellsB] at f0
    rw [cellsB] at f1
    rw [cellsB] at f2
    rw [cellsJ] at f3
    rw [cellsJ] at f4
    rw [cellsF] at f5
    match xs, hlen with
    | [y0, y1, y2, y3, y4, y5], _ =>
      obtain ⟨v0, e0, _, g0⟩ := DataW.trod_int Try.underlying5 f0
      obtain ⟨v1, e1, _, g1⟩ := DataW.trod_int Try.underlying5 f1
      obtain ⟨v2, e2, _, g2⟩ := DataW.trod_int Try.underlying5 f2
      obtain ⟨v3, e3, _, g3⟩ := DataW.trod_int Try.underlying2 f3
      obtain ⟨v4, e4, _, g4⟩ := DataW.trod_int Try.underlying2 f4
      obtain ⟨x5, g5, e5⟩ := open_fr f5
      simp at e0
      subst e0
      simp at e1
      subst e1
      simp at e2
      subst e2
      simp at e3
      subst e3
      simp at e4
      subst e4
      obtain ⟨fi, fn, p0, p1, p2, p3, p4, p5, p6, p7, fr, fnow⟩ := x5
      simp [Hx.F] at e5
      obtain ⟨rfl, rfl, rfl, rfl, rfl, rfl, rfl, rfl, rfl, rfl, rfl⟩ := e5
      exact ⟨⟨v0, v1, v2, v3, v4, ⟨fi, fn, p0, p1, p2, p3, p4, p5, p6, p7, fr, fnow⟩⟩, ⟨wf_o g0, wf_o g1, wf_o g2, g5⟩, rfl⟩
/-- A row that came in. -/
theorem open_os {H : Type} {enc : TypeId × Value → H} {w : World} {base : Nat} {spare : Nat → Bool} {held : Bool} {fuel : Nat} {v : Value} {y : DataW H × List MemPlace}
    (h : DataW.trod enc Try.prog w base spare held fuel 45 [v] = some y) :
    ∃ a len cap l, v = .slice a len cap ∧ IsOx w a len l ∧ len ≤ cap ∧ cap ≤ maxLen := by
  rcases DataW.trod_slice Try.underlying45 h with ⟨h0, _⟩ | ⟨a, len, cap, elems, rest, n, _, h0, _, hb, hl, hm, hlen, hel, hsp, hns⟩
  · cases h0
    exact ⟨none, 0, 0, [], rfl, ⟨rfl, (fun x hx => by cases hx), fun hp => absurd hp (by decide)⟩, Nat.le_refl _, by decide⟩
  · cases h0
    rw [cellsOx] at hel
    have each : ∀ i : Nat, ∃ x : Ox, i < len → x.Ok ∧ ∀ j v, x.C[j]? = some v → w.cell? ((a.add (i * 16)).add j) = some v := fun i => by
      by_cases hi : i < len
      · have := hel i hi
        rw [List.getElem?_eq_getElem (by omega), Option.bind_eq_some_iff] at this
        obtain ⟨cs, hcs, ht⟩ := this
        obtain ⟨x, hx, rfl⟩ := open_os1 ht
        refine ⟨x, fun _ => ⟨hx, fun j v hv => ?_⟩⟩
        have hj : j < 16 := (List.getElem?_eq_some_iff.1 hv).1
        rw [(World.cells?_some hcs).2.2 j hj]; exact hv
      · exact ⟨default, fun h => absurd h hi⟩
    obtain ⟨f, hf⟩ := Classical.axiomOfChoice each
    refine ⟨some a, len, cap, (List.range len).map f, rfl, ⟨by simp, fun x hx => ?_, fun hp => ?_⟩, hl, hm⟩
    · obtain ⟨i, hi, rfl⟩ := List.mem_map.1 hx
      exact (hf i (List.mem_range.1 hi)).1
    · obtain ⟨b, off, spot⟩ := a
      have h0 := (hf 0 hp).2 0 _ rfl
      have hs : spot = none := by simpa [Addr.add] using World.cell?_spot h0
      subst hs
      refine ⟨b, off, rfl, fun i x hx j v hv => ?_⟩
      obtain ⟨hi, rfl⟩ : i < len ∧ f i = x := by
        rw [List.getElem?_map] at hx
        by_cases hi : i < len
        · rw [List.getElem?_range hi] at hx
          exact ⟨hi, by simpa using hx⟩
        · rw [List.getElem?_eq_none (by simpa using hi)] at hx
          cases hx
      have hc := (hf i hi).2 j v hv
      simp only [Addr.add_lit] at hc
      exact hc
structure IsTx (w : World) (a : Option Addr) (len : Nat) (l : List Int) : Prop where
  size : l.length = len
  at_ : 0 < len → ∃ b off, a = some ⟨b, off, none⟩ ∧ ∀ i, i < len → w.cell? ⟨b, off + i, none⟩ = some (.int .i64 (l.getD i 0))
theorem IsTx.next {w w' : World} {a : Option Addr} {len : Nat} {l : List Int} (h : IsTx w a len l) (hb : Below w.heap.size w w') : IsTx w' a len l where
  size := h.size
  at_ := fun hp => by
    obtain ⟨b, off, e, hc⟩ := h.at_ hp
    exact ⟨b, off, e, fun i hi => cl11 hb (hc i hi)⟩
/-- A row of steps that came in. -/
theorem open_ts {H : Type} {enc : TypeId × Value → H} {w : World} {base : Nat} {spare : Nat → Bool} {held : Bool} {fuel : Nat} {v : Value} {y : DataW H × List MemPlace}
    (h : DataW.trod enc Try.prog w base spare held fuel 68 [v] = some y) :
    ∃ a len cap l, v = .slice a len cap ∧ IsTx w a len l ∧ len ≤ cap ∧ cap ≤ maxLen := by
  rcases open_ints Try.underlying68 Try.underlying2 cellsJ h with ⟨hcs, _⟩ | ⟨x, l, c, zs, hcs, _, hl, hm, hz, _, hcell, hwz⟩
  · cases hcs
    exact ⟨none, 0, 0, [], rfl, ⟨rfl, fun hp => absurd hp (by decide)⟩, Nat.le_refl _, by decide⟩
  · cases hcs
    have hlz : l ≤ zs.length := by rw [hz]; split <;> omega
    refine ⟨_, l, c, zs.take l, rfl, ⟨by rw [List.length_take]; omega, fun hp => ?_⟩, hl, hm⟩
    obtain ⟨b, off, spot⟩ := x
    have h0 := hcell 0 (by omega)
    have hs : spot = none := by simpa [Addr.add] using World.cell?_spot h0
    subst hs
    refine ⟨b, off, rfl, fun i hi => ?_⟩
    have := hcell i (by omega)
    rw [show (⟨b, off, none⟩ : Addr).add i = ⟨b, off + i, none⟩ from by simp [Addr.add]] at this
    rw [this]
    simp [List.getD_eq_getElem?_getD, hi]
#print axioms open_bs
#print axioms open_os
#print axioms open_ts
end Go.Proofs.Ytjdfacjfpdfafaa
