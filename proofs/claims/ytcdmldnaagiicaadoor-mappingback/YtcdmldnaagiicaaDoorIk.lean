/-
  Entries and Maps that came in, as the rows read them.
  How many bytes entries have.
  MappingBits.
  Values that came in, as the rows read them.
-/
import Derived.Test.YtcdmldnaagiicaaDoorIh
import Derived.WalkKit
import Derived.ProofKit
import Derived.OpenShut
import Derived.SizedLaws
import Derived.BigQuiet
import Derived.Test.YtcdmldnaagiicaaDoorGl
namespace Go.Proofs.YtcdmldnaagiicaaDoor
open Go.ChangeShapes Go.WideShapes Go.ChangeAt Go.RowKit

theorem cellsO : Tryd.prog.cellsOf 5 = 1 := by kernel_rfl
theorem cellsOs : Tryd.prog.cellsOf 34 = 1 := by kernel_rfl
theorem cellsOh : Tryd.prog.cellsOf 31 = 1 := by kernel_rfl
theorem wf_o {n : Int} (h : (Lit.int .u8 n).wf = true) : 0 ≤ n ∧ n < 256 := by
  simp [Lit.wf, IntKind.min, IntKind.max, IntKind.signed, IntKind.bits] at h
  omega
theorem wf_h {n : Int} (h : (Lit.int .u16 n).wf = true) : 0 ≤ n ∧ n < 65536 := by
  simp [Lit.wf, IntKind.min, IntKind.max, IntKind.signed, IntKind.bits] at h
  omega
theorem mem_wA {H : Type} {P : Program} {e : TypeId} : ∀ {l : List (DataW H)} {d : DataW H}, d ∈ l → ∀ n ∈ d.weights P e, n ∈ DataW.weightsAll P e l
  | d0 :: l, d, hd, n, hn => by
    simp only [DataW.weightsAll, List.mem_append]
    rcases List.mem_cons.1 hd with rfl | hd
    · exact .inl hn
    · exact .inr (mem_wA hd n hn)
theorem bytesO : Tryd.prog.bytesOf 5 = 1 := by kernel_rfl
/-- Bytes that came in. -/
theorem open_rowO {H : Type} {enc : TypeId × Value → H} {w : World} {base : Nat} {spare : Nat → Bool} {held : Bool} {fuel : Nat} {cs : List Value} {y : DataW H × List MemPlace}
    (h : DataW.trod enc Tryd.prog w base spare held fuel 34 cs = some y) (hw : ∀ n ∈ y.1.weights Tryd.prog 34, n ≤ reachBytes) : ∃ a zs cap, cs = [.slice a zs.length cap] ∧ Row w a zs.length zs ∧ zs.length ≤ cap ∧ cap ≤ maxLen ∧ zs.length ≤ 140737488355328 := by
  rcases open_ints Tryd.underlying34 Tryd.underlying5 cellsO h with ⟨rfl, _⟩ | ⟨x, l, c, zs, rfl, _, hl, hm, hz, rfl, hcell, hwz⟩
  · exact ⟨none, [], 0, rfl, row_nil w, Nat.le_refl _, by decide, by simp⟩
  · have hlz : l ≤ zs.length := by rw [hz]; split <;> omega
    have e : (zs.take l).length = l := by rw [List.length_take]; omega
    have hw2 := hw (((lits (H := H) .u8 (zs.take l)).length + (lits (H := H) .u8 (zs.drop l)).length) * Tryd.prog.bytesOf 5) (by simp [DataW.weights, Tryd.underlying34])
    have hl8 : (zs.take l).length ≤ 140737488355328 := by
      rw [bytesO] at hw2
      have := reachBytes_lt
      simp only [lits, List.length_map, Nat.mul_one] at hw2
      omega
    refine ⟨some x, zs.take l, c, by rw [e], ⟨rfl, fun n hn => wf_o (hwz n (List.mem_of_mem_take hn)), fun hp => ?_⟩, by omega, hm, hl8⟩
    rw [e] at hp
    obtain ⟨b, off, spot⟩ := x
    have h0 := hcell 0 (by omega)
    have hs : spot = none := by simpa [Addr.add] using World.cell?_spot h0
    subst hs
    refine ⟨b, off, rfl, fun i hi => ?_⟩
    rw [e] at hi
    have := hcell i (by omega)
    rw [show (⟨b, off, none⟩ : Addr).add i = ⟨b, off + i, none⟩ from by simp [Addr.add]] at this
    rw [this]
    simp [List.getD_eq_getElem?_getD, hi]
theorem cellsEn : Tryd.prog.cellsOf 53 = 10 := by kernel_rfl
theorem cellsSt : Tryd.prog.cellsOf 9 = 1 := by kernel_rfl
/-- An entry that came in: what is sure of it. -/
structure EmW (w : World) (e : Em) : Prop where
  rd : SlOk w e.d e.ld e.cd e.zd
  rl : SlOk w e.l e.ll e.cl e.zl
  rh : SlOk w e.h e.lh e.ch e.zh
  b1 : e.ld ≤ 140737488355328
  b2 : e.ll ≤ 140737488355328
  b3 : e.lh ≤ 140737488355328
  b4 : e.nm.size ≤ 140737488355328
  wi : 0 ≤ e.i ∧ e.i < 65536
  ws : 0 ≤ e.s ∧ e.s < 256
  wt : 0 ≤ e.t ∧ e.t < 256
  wr : 0 ≤ e.rt ∧ e.rt < 256
  wg : 0 ≤ e.gr ∧ e.gr < 256
theorem EmW.next {w w' : World} {e : Em} (h : EmW w e) (hb : Below w.heap.size w w') : EmW w' e := ⟨h.rd.next hb, h.rl.next hb, h.rh.next hb, h.b1, h.b2, h.b3, h.b4, h.wi, h.ws, h.wt, h.wr, h.wg⟩
structure IsEn (w : World) (a : Option Addr) (len : Nat) (es : List Em) : Prop where
  size : es.length = len
  ok : ∀ e ∈ es, EmW w e
  at_ : 0 < len → ∃ b off, a = some ⟨b, off, none⟩ ∧ ∀ (k : Nat) (e : Em), es[k]? = some e → EmAtO w b off k e
set_option maxRecDepth 100000 in
theorem open_en1 {H : Type} {enc : TypeId × Value → H} {w : World} {base : Nat} {spare : Nat → Bool} {held : Bool} {fuel : Nat} {cs : List Value} {y : DataW H × List MemPlace}
    (h : DataW.trod enc Tryd.prog w base spare held fuel 53 cs = some y) (hw : ∀ n ∈ y.1.weights Tryd.prog 53, n ≤ reachBytes) :
    ∃ x : Em, EmW w x ∧ cs = [Value.int .u16 x.i, .int .u8 x.s, .string x.nm, .int .u8 x.t, .int .u8 x.rt, .slice x.d x.ld x.cd, .slice x.l x.ll x.cl, .slice x.h x.lh x.ch, .int .u8 x.tg, .int .u8 x.gr] := by
  obtain ⟨xs, m, _, ey, hl, hlen, hf⟩ := DataW.trod_struct Tryd.underlying53 h
  rw [cellsEn] at hl
  have HW : Hid (∀ (t : TypeId) (j : Nat) (z : DataW H × List MemPlace), ([31, 5, 9, 5, 5, 34, 34, 34, 5, 5] : List TypeId)[j]? = some t → xs[j]? = some z → ∀ n ∈ z.1.weights Tryd.prog t, n ≤ reachBytes) := fun t j z ht hz n hn => hw n (by
    subst ey
    simp only [DataW.weights, Tryd.underlying53]
    exact DataW.weights_mem_each (j := j) (t := t) (d := z.1) ht (by rw [List.getElem?_map, hz]; rfl) n hn)
  clear hw ey
  match cs, hl with
  | [c0, c1, c2, c3, c4, c5, c6, c7, c8, c9], _ =>
    have f0 : DataW.trod enc Tryd.prog w base spare held m 31 (([c0, c1, c2, c3, c4, c5, c6, c7, c8, c9].drop 0).take (Tryd.prog.cellsOf 31)) = xs[0]? := hf 0 _ rfl
    have f1 : DataW.trod enc Tryd.prog w base spare held m 5 (([c0, c1, c2, c3, c4, c5, c6, c7, c8, c9].drop 1).take (Tryd.prog.cellsOf 5)) = xs[1]? := hf 1 _ rfl
    have f2 : DataW.trod enc Tryd.prog w base spare held m 9 (([c0, c1, c2, c3, c4, c5, c6, c7, c8, c9].drop 2).take (Tryd.prog.cellsOf 9)) = xs[2]? := hf 2 _ rfl
    have f3 : DataW.trod enc Tryd.prog w base spare held m 5 (([c0, c1, c2, c3, c4, c5, c6, c7, c8, c9].drop 3).take (Tryd.prog.cellsOf 5)) = xs[3]? := hf 3 _ rfl
    have f4 : DataW.trod enc Tryd.prog w base spare held m 5 (([c0, c1, c2, c3, c4, c5, c6, c7, c8, c9].drop 4).take (Tryd.prog.cellsOf 5)) = xs[4]? := hf 4 _ rfl
    have f5 : DataW.trod enc Tryd.prog w base spare held m 34 (([c0, c1, c2, c3, c4, c5, c6, c7, c8, c9].drop 5).take (Tryd.prog.cellsOf 34)) = xs[5]? := hf 5 _ rfl
    have f6 : DataW.trod enc Tryd.prog w base spare held m 34 (([c0, c1, c2, c3, c4, c5, c6, c7, c8, c9].drop 6).take (Tryd.prog.cellsOf 34)) = xs[6]? := hf 6 _ rfl
    have f7 : DataW.trod enc Tryd.prog w base spare held m 34 (([c0, c1, c2, c3, c4, c5, c6, c7, c8, c9].drop 7).take (Tryd.prog.cellsOf 34)) = xs[7]? := hf 7 _ rfl
    have f8 : DataW.trod enc Tryd.prog w base spare held m 5 (([c0, c1, c2, c3, c4, c5, c6, c7, c8, c9].drop 8).take (Tryd.prog.cellsOf 5)) = xs[8]? := hf 8 _ rfl
    have f9 : DataW.trod enc Tryd.prog w base spare held m 5 (([c0, c1, c2, c3, c4, c5, c6, c7, c8, c9].drop 9).take (Tryd.prog.cellsOf 5)) = xs[9]? := hf 9 _ rfl
    rw [cellsOh] at f0
    rw [cellsO] at f1 f3 f4 f8 f9
    rw [cellsSt] at f2
    rw [cellsOs] at f5 f6 f7
    match xs, hlen with
    | [y0, y1, y2, y3, y4, y5, y6, y7, y8, y9], _ =>
      obtain ⟨i, e0, _, g0⟩ := DataW.trod_int Tryd.underlying31 f0
      obtain ⟨s, e1, _, g1⟩ := DataW.trod_int Tryd.underlying5 f1
      obtain ⟨nm, e2, x2, _⟩ := DataW.trod_string Tryd.underlying9 f2
      obtain ⟨t, e3, _, g3⟩ := DataW.trod_int Tryd.underlying5 f3
      obtain ⟨rt, e4, _, g4⟩ := DataW.trod_int Tryd.underlying5 f4
      obtain ⟨d, zd, cd, e5, rd, pd, qd, od⟩ := open_rowO f5 (HW.out 34 5 y5 rfl rfl)
      obtain ⟨l, zl, cl, e6, rl, pl, ql, ol⟩ := open_rowO f6 (HW.out 34 6 y6 rfl rfl)
      obtain ⟨hh, zhh, chh, e7, rhh, phh, qhh, ohh⟩ := open_rowO f7 (HW.out 34 7 y7 rfl rfl)
      obtain ⟨tg, e8, _, g8⟩ := DataW.trod_int Tryd.underlying5 f8
      obtain ⟨gr, e9, _, g9⟩ := DataW.trod_int Tryd.underlying5 f9
      have hnm := HW.out 9 2 y2 rfl rfl
      rw [x2] at hnm
      have hn1 := hnm nm.data.toList.length (by simp [DataW.weights])
      have hn2 : nm.size ≤ 140737488355328 := by
        have := reachBytes_lt
        have e : nm.data.toList.length = nm.size := rfl
        omega
      simp at e0 e1 e2 e3 e4 e5 e6 e7 e8 e9
      subst e0 e1 e2 e3 e4 e5 e6 e7 e8 e9
      exact ⟨⟨i, s, nm, t, rt, d, zd.length, cd, l, zl.length, cl, hh, zhh.length, chh, tg, gr, zd, zl, zhh⟩, ⟨⟨rd, pd, qd⟩, ⟨rl, pl, ql⟩, ⟨rhh, phh, qhh⟩, od, ol, ohh, hn2, wf_h g0, wf_o g1, wf_o g3, wf_o g4, wf_o g9⟩, rfl⟩
set_option maxRecDepth 100000 in
theorem open_en {H : Type} {enc : TypeId × Value → H} {w : World} {base : Nat} {spare : Nat → Bool} {held : Bool} {fuel : Nat} {v : Value} {y : DataW H × List MemPlace}
    (h : DataW.trod enc Tryd.prog w base spare held fuel 22 [v] = some y) (hw : ∀ n ∈ y.1.weights Tryd.prog 22, n ≤ reachBytes) :
    ∃ a len cap l, v = .slice a len cap ∧ IsEn w a len l ∧ len ≤ cap ∧ cap ≤ maxLen := by
  rcases DataW.trod_slice Tryd.underlying22 h with ⟨h0, _⟩ | ⟨a, len, cap, elems, rest, n, _, h0, rfl, hb, hl, hm, hlen, hel, hsp, hns⟩
  · cases h0
    exact ⟨none, 0, 0, [], rfl, ⟨rfl, (fun x hx => by cases hx), fun hp => absurd hp (by decide)⟩, Nat.le_refl _, by decide⟩
  · cases h0
    rw [cellsEn] at hel
    have each : ∀ i : Nat, ∃ X : Em, i < len → EmW w X ∧ (∀ j v, [Value.int .u16 X.i, .int .u8 X.s, .string X.nm, .int .u8 X.t, .int .u8 X.rt, .slice X.d X.ld X.cd, .slice X.l X.ll X.cl, .slice X.h X.lh X.ch, .int .u8 X.tg, .int .u8 X.gr][j]? = some v → w.cell? ((a.add (i * 10)).add j) = some v) := fun i => by
      by_cases hi : i < len
      · have := hel i hi
        rw [List.getElem?_eq_getElem (by omega), Option.bind_eq_some_iff] at this
        obtain ⟨cs, hcs, ht⟩ := this
        obtain ⟨x, hx, rfl⟩ := open_en1 ht (fun n hn => hw n (by
          simp only [DataW.weights, Tryd.underlying22, List.mem_cons, List.mem_append]
          exact .inr (.inl (mem_wA (List.mem_map.2 ⟨_, List.getElem_mem _, rfl⟩) n hn))))
        refine ⟨x, fun _ => ⟨hx, fun j v hv => ?_⟩⟩
        have hj : j < 10 := (List.getElem?_eq_some_iff.1 hv).1
        rw [(World.cells?_some hcs).2.2 j hj]; exact hv
      · exact ⟨⟨0, 0, ⟨#[]⟩, 0, 0, none, 0, 0, none, 0, 0, none, 0, 0, 0, 0, [], [], []⟩, fun h => absurd h hi⟩
    obtain ⟨f, hf⟩ := Classical.axiomOfChoice each
    refine ⟨some a, len, cap, (List.range len).map f, rfl, ⟨by simp, fun x hx => ?_, fun hp => ?_⟩, hl, hm⟩
    · obtain ⟨i, hi, rfl⟩ := List.mem_map.1 hx
      exact (hf i (List.mem_range.1 hi)).1
    · obtain ⟨b, off, spot⟩ := a
      have h0 := (hf 0 hp).2 0 _ rfl
      have hs : spot = none := by simpa [Addr.add] using World.cell?_spot h0
      subst hs
      refine ⟨b, off, rfl, fun i x hx => ?_⟩
      obtain ⟨hi, rfl⟩ : i < len ∧ f i = x := by
        rw [List.getElem?_map] at hx
        by_cases hi : i < len
        · rw [List.getElem?_range hi] at hx
          exact ⟨hi, by simpa using hx⟩
        · rw [List.getElem?_eq_none (by simpa using hi)] at hx
          cases hx
      have hc := (hf i hi).2
      simp only [Addr.add_lit] at hc
      exact ⟨by simpa using hc 0 _ rfl, hc 1 _ rfl, hc 2 _ rfl, hc 3 _ rfl, hc 4 _ rfl, hc 5 _ rfl, hc 6 _ rfl, hc 7 _ rfl, hc 8 _ rfl, hc 9 _ rfl⟩
theorem cellsMz : Tryd.prog.cellsOf 48 = 3 := by kernel_rfl
theorem cellsPl : Tryd.prog.cellsOf 33 = 2 := by kernel_rfl
theorem cellsIn : Tryd.prog.cellsOf 3 = 1 := by kernel_rfl
set_option maxRecDepth 100000 in
theorem open_mz1 {H : Type} {enc : TypeId × Value → H} {w : World} {base : Nat} {spare : Nat → Bool} {held : Bool} {fuel : Nat} {cs : List Value} {y : DataW H × List MemPlace}
    (h : DataW.trod enc Tryd.prog w base spare held fuel 48 cs = some y) : ∃ x : Mz, (0 ≤ x.i ∧ x.i < 65536) ∧ cs = [.int .u16 x.i, .int .u8 x.s, .int .i64 x.b] := by
  obtain ⟨xs, m, _, ey, hl, hlen, hf⟩ := DataW.trod_struct Tryd.underlying48 h
  rw [cellsMz] at hl
  match cs, hl with
  | [c0, c1, c2], _ =>
    have f0 : DataW.trod enc Tryd.prog w base spare held m 33 (([c0, c1, c2].drop 0).take (Tryd.prog.cellsOf 33)) = xs[0]? := hf 0 _ rfl
    have f1 : DataW.trod enc Tryd.prog w base spare held m 3 (([c0, c1, c2].drop 2).take (Tryd.prog.cellsOf 3)) = xs[1]? := hf 1 _ rfl
    rw [cellsPl] at f0
    rw [cellsIn] at f1
    match xs, hlen with
    | [y0, y1], _ =>
      obtain ⟨b, e2, _, _⟩ := DataW.trod_int Tryd.underlying3 f1
      obtain ⟨zs, m2, _, _, hl2, hlen2, hf2⟩ := DataW.trod_struct Tryd.underlying33 f0
      have g0 : DataW.trod enc Tryd.prog w base spare held m2 31 (([c0, c1].drop 0).take (Tryd.prog.cellsOf 31)) = zs[0]? := hf2 0 _ rfl
      have g1 : DataW.trod enc Tryd.prog w base spare held m2 5 (([c0, c1].drop 1).take (Tryd.prog.cellsOf 5)) = zs[1]? := hf2 1 _ rfl
      rw [cellsOh] at g0
      rw [cellsO] at g1
      match zs, hlen2 with
      | [z0, z1], _ =>
        obtain ⟨i, e0, _, k0⟩ := DataW.trod_int Tryd.underlying31 g0
        obtain ⟨s, e1, _, _⟩ := DataW.trod_int Tryd.underlying5 g1
        simp at e0 e1 e2
        subst e0 e1 e2
        exact ⟨⟨i, s, b⟩, wf_h k0, rfl⟩
/-- Maps that came in. -/
structure IsMz (w : World) (a : Option Addr) (len : Nat) (ms : List Mz) : Prop where
  size : ms.length = len
  ok : ∀ x ∈ ms, 0 ≤ x.i ∧ x.i < 65536
  at_ : 0 < len → ∃ b off, a = some ⟨b, off, none⟩ ∧ MzAt w b off ms
theorem open_mz {H : Type} {enc : TypeId × Value → H} {w : World} {base : Nat} {spare : Nat → Bool} {held : Bool} {fuel : Nat} {v : Value} {y : DataW H × List MemPlace}
    (h : DataW.trod enc Tryd.prog w base spare held fuel 23 [v] = some y) :
    ∃ a len cap l, v = .slice a len cap ∧ IsMz w a len l ∧ len ≤ cap ∧ cap ≤ maxLen := by
  rcases DataW.trod_slice Tryd.underlying23 h with ⟨h0, _⟩ | ⟨a, len, cap, elems, rest, n, _, h0, rfl, hb, hl, hm, hlen, hel, hsp, hns⟩
  · cases h0
    exact ⟨none, 0, 0, [], rfl, ⟨rfl, (fun x hx => by cases hx), fun hp => absurd hp (by decide)⟩, Nat.le_refl _, by decide⟩
  · cases h0
    rw [cellsMz] at hel
    have each : ∀ i : Nat, ∃ X : Mz, i < len → (0 ≤ X.i ∧ X.i < 65536) ∧ (∀ j v, [Value.int .u16 X.i, .int .u8 X.s, .int .i64 X.b][j]? = some v → w.cell? ((a.add (i * 3)).add j) = some v) := fun i => by
      by_cases hi : i < len
      · have := hel i hi
        rw [List.getElem?_eq_getElem (by omega), Option.bind_eq_some_iff] at this
        obtain ⟨cs, hcs, ht⟩ := this
        obtain ⟨x, hx, rfl⟩ := open_mz1 ht
        refine ⟨x, fun _ => ⟨hx, fun j v hv => ?_⟩⟩
        have hj : j < 3 := (List.getElem?_eq_some_iff.1 hv).1
        rw [(World.cells?_some hcs).2.2 j hj]; exact hv
      · exact ⟨⟨0, 0, 0⟩, fun h => absurd h hi⟩
    obtain ⟨f, hf⟩ := Classical.axiomOfChoice each
    refine ⟨some a, len, cap, (List.range len).map f, rfl, ⟨by simp, fun x hx => ?_, fun hp => ?_⟩, hl, hm⟩
    · obtain ⟨i, hi, rfl⟩ := List.mem_map.1 hx
      exact (hf i (List.mem_range.1 hi)).1
    · obtain ⟨b, off, spot⟩ := a
      have h0 := (hf 0 hp).2 0 _ rfl
      have hs : spot = none := by simpa [Addr.add] using World.cell?_spot h0
      subst hs
      refine ⟨b, off, rfl, fun i x hx => ?_⟩
      obtain ⟨hi, rfl⟩ : i < len ∧ f i = x := by
        rw [List.getElem?_map] at hx
        by_cases hi : i < len
        · rw [List.getElem?_range hi] at hx
          exact ⟨hi, by simpa using hx⟩
        · rw [List.getElem?_eq_none (by simpa using hi)] at hx
          cases hx
      have hc := (hf i hi).2
      simp only [Addr.add_lit] at hc
      exact ⟨by simpa using hc 0 _ rfl, hc 1 _ rfl, hc 2 _ rfl⟩
theorem sized_of {H : Type} {P : Program} {ts us : List TypeId} {ds gs : List (DataW H)} (h : (DataW.weightsEach P (ts ++ us) (ds ++ gs)).all (· ≤ reachBytes) = true) (j : Nat) (t : TypeId) (d : DataW H) (ht : ts[j]? = some t) (hd : ds[j]? = some d) : ∀ n ∈ d.weights P t, n ≤ reachBytes := fun n hn => by
  have h1 : (ts ++ us)[j]? = some t := by rw [List.getElem?_append_left (List.getElem?_eq_some_iff.1 ht).1]; exact ht
  have h2 : (ds ++ gs)[j]? = some d := by rw [List.getElem?_append_left (List.getElem?_eq_some_iff.1 hd).1]; exact hd
  simpa using List.all_eq_true.1 h n (DataW.weights_mem_each h1 h2 n hn)
#print axioms open_en
#print axioms open_mz
end Go.Proofs.YtcdmldnaagiicaaDoor
namespace Go.Proofs.YtcdmldnaagiicaaDoor
open Go.RowKit

/-- What is told of the first ones. -/
def Few (es : List Em) (k n : Nat) : Prop := k ≤ n ∧ ∀ (j : Nat) (e : Em), j < k → es[j]? = some e → e.ld ≤ n ∧ e.ll ≤ n ∧ e.lh ≤ n
theorem Few.step {es : List Em} {k n : Nat} {e : Em} (h : Few es k n) (he : es[k]? = some e) (m : Nat) (hm : n + 1 + e.ld + e.ll + e.lh ≤ m) : Few es (k + 1) m := ⟨by have := h.1; omega, fun j x hj hx => by
  by_cases hjk : j = k
  · subst hjk
    rw [he] at hx
    cases hx
    omega
  · have := h.2 j x (by omega) hx
    omega⟩

set_option linter.unusedSimpArgs false in
set_option maxHeartbeats 4000000 in
set_option maxRecDepth 100000 in
theorem size12 {w : World} {a : Option Addr} {len : Nat} {es : List Em} (h : IsEn w a len es) (cap : Nat) (hlm : len ≤ maxLen) :
    Calls Tryd.prog 4 #[.slice a len cap] w fun e w' => ∃ n : Nat, e = .returned (.int .i64 (n : Int)) ∧ n ≤ 700000000000000 ∧ (n ≤ 5000 → len ≤ 5000 ∧ ∀ e ∈ es, e.ld ≤ 5000 ∧ e.ll ≤ 5000 ∧ e.lh ≤ 5000) ∧ Below w.heap.size w w' := by
  have HH : Hid (IsEn w a len es) := h
  have hlm' : len ≤ 9223372036854775807 := hlm
  clear h
  go_enter Tryd.func4, Tryd.ntmps4
  go_wp2_with fail
  go_loopw [3, 4] (fun nv iv wr => ∃ k n : Nat, k ≤ len ∧ iv = .int .i64 (k : Int) ∧ nv = .int .i64 (n : Int) ∧ n ≤ 700000000000000 ∧ Hid (Few es k n ∧ Below w.heap.size w wr)) (fun _ iv _ => len - (intOf iv).toNat)
  case atStart => exact ⟨0, 0, Nat.zero_le _, rfl, rfl, by decide, (show _ ∧ _ from ⟨⟨Nat.le_refl _, fun j e hj => by omega⟩, Below.refl _ _⟩)⟩
  case round =>
    obtain ⟨k, n, hk, rfl, rfl, hn, HR⟩ := hrel
    have hsz := HH.out.size
    by_cases hkl : k < len
    · have gk : (k : Int) < (len : Int) := by omega
      have gk0 : (0 : Int) ≤ (k : Int) := by omega
      by_cases hn5 : n ≤ 5000
      · have gn : (n : Int) ≤ 5000 := by omega
        obtain ⟨b, off, rfl, hat⟩ := HH.out.at_ (by omega)
        obtain ⟨e, he⟩ : ∃ e, es[k]? = some e := ⟨_, List.getElem?_eq_getElem (by omega)⟩
        have hw := HH.out.ok e (List.mem_of_getElem? he)
        have o1 := hw.b1
        have o2 := hw.b2
        have o3 := hw.b3
        have o4 := hw.b4
        obtain ⟨_, _, m2, _, _, m5, m6, m7, _, _⟩ := hat k e he
        have c2 := (HR.out.2.cell (block_lt_of_cell m2)).trans m2
        have c5 := (HR.out.2.cell (block_lt_of_cell m5)).trans m5
        have c6 := (HR.out.2.cell (block_lt_of_cell m6)).trans m6
        have c7 := (HR.out.2.cell (block_lt_of_cell m7)).trans m7
        have FS : Hid (Few es (k + 1) (n + 1 + e.nm.size + e.ld + e.ll + e.lh)) := HR.out.1.step he _ (by omega)
        have BR : Hid (Below w.heap.size w wr) := HR.out.2
        clear hat hw m2 m5 m6 m7 he HR
        have a1 : IntKind.i64.wrap ((n : Int) + 1) = ((n + 1 : Nat) : Int) := by rw [IntKind.wrap_i64]; omega
        have a2 : IntKind.i64.wrap (((n + 1 : Nat) : Int) + (e.nm.size : Int)) = ((n + 1 + e.nm.size : Nat) : Int) := by rw [IntKind.wrap_i64]; omega
        have a3 : IntKind.i64.wrap (((n + 1 + e.nm.size : Nat) : Int) + (e.ld : Int)) = ((n + 1 + e.nm.size + e.ld : Nat) : Int) := by rw [IntKind.wrap_i64]; omega
        have a4 : IntKind.i64.wrap (((n + 1 + e.nm.size + e.ld : Nat) : Int) + (e.ll : Int)) = ((n + 1 + e.nm.size + e.ld + e.ll : Nat) : Int) := by rw [IntKind.wrap_i64]; omega
        have a5 : IntKind.i64.wrap (((n + 1 + e.nm.size + e.ld + e.ll : Nat) : Int) + (e.lh : Int)) = ((n + 1 + e.nm.size + e.ld + e.ll + e.lh : Nat) : Int) := by rw [IntKind.wrap_i64]; omega
        have a6 : IntKind.i64.wrap ((k : Int) + 1) = ((k + 1 : Nat) : Int) := by rw [IntKind.wrap_i64]; omega
        go_wp2_with fail
        go_quiet (fail)
        go_wp2_with fail
        exact ⟨⟨k + 1, n + 1 + e.nm.size + e.ld + e.ll + e.lh, by omega, by go_num, by go_num, by omega, (show _ ∧ _ from ⟨FS.out, ⟨BR.out.os, BR.out.tape, BR.out.output, BR.out.size, BR.out.block⟩⟩)⟩, by simp [intOf]; omega⟩
      · have gn : ¬ ((n : Int) ≤ 5000) := by omega
        go_wp2_with fail
        go_ret
        exact ⟨n, rfl, hn, fun h => absurd h hn5, HR.out.2⟩
    · have gk : ¬ ((k : Int) < (len : Int)) := by omega
      go_wp2_with fail
      go_ret
      refine ⟨n, rfl, hn, fun h5 => ⟨by have := HR.out.1.1; omega, fun e he => ?_⟩, HR.out.2⟩
      obtain ⟨j, hj, hq⟩ := List.getElem_of_mem he
      have := HR.out.1.2 j e (by omega) (by rw [List.getElem?_eq_getElem hj, hq])
      omega
#print axioms size12
end Go.Proofs.YtcdmldnaagiicaaDoor
namespace Go.Proofs.YtcdmldnaagiicaaDoor
open Go.RowKit

/-- The value of a Map that may be sent. -/
theorem get_va {w : World} {lst : Mp} {val : Int → Int → List Int} (ho : ItOk w lst val) {x : Mz} (hcf : cfD lst true x = 0) (p m : Nat) (cg : Int) (hp : w.heap[p]? = some (.cells #[.map (some m), .int .i64 cg] 58 (0, 0))) (hm : IsM w m lst) :
    Calls Tryd.prog 12 #[.pointer (some ⟨p, 0, none⟩), plV x.i x.s] w fun e w' => (∃ a' cap', e = .returned (.tuple #[.slice a' ((x.b.toNat + 7) / 8) cap', .bool true]) ∧ Told w w' a' ((x.b.toNat + 7) / 8) cap' (val x.i x.s)) ∧ Below w.heap.size w w' := by
  unfold cfD at hcf
  split at hcf
  · exact absurd hcf (by decide)
  · split at hcf
    · exact absurd hcf (miss_ne _ _)
    · rename_i u hl
      obtain ⟨nm, t, rt, d, ld, cd, l, ll, cl, h, lh, ch, tg, gr, v, lv, cv, zd, zl, zh, rfl, r1, r2, r3, r4, g1, g2, g3, g4, g5⟩ := ho _ _ _ hl
      split at hcf
      · rename_i hq
        simp only [Bool.and_eq_true] at hq
        obtain ⟨⟨_, h1⟩, _⟩ := hq
        have h1 : hasB t x.b = true := h1
        have hs := Ty.Pl.size_bd t
        have h3 : 0 < Ty.Pl.sizeN t ∧ (x.b = 8 * Ty.Pl.sizeN t ∨ t = 1 ∧ x.b = 1) := by
          simp only [hasB, Bool.and_eq_true, Bool.or_eq_true, decide_eq_true_eq, beq_iff_eq] at h1
          exact h1
        have h4 := g5 h3.1
        have h6 : t = 1 → Ty.Pl.sizeN t = 1 := fun e => by subst e; rfl
        have e : lv = (x.b.toNat + 7) / 8 := by
          rcases h3.2 with h | ⟨h, h'⟩
          · omega
          · have := h6 h; omega
        rw [← e]
        exact get_at p m cg lst x.i x.s nm t rt d ld cd l ll cl h lh ch tg gr v lv cv (val x.i x.s) w hp hm hl r4 g4
      · exact absurd hcf (by decide)
theorem ItOk.oct {w : World} {lst : Mp} {val : Int → Int → List Int} (ho : ItOk w lst val) {x : Mz} (hcf : cfD lst true x = 0) : Oct (val x.i x.s) := by
  obtain ⟨nm, t, rt, d, ld, cd, l, ll, cl, h, lh, ch, tg, gr, v, lv, cv, _, r, _⟩ := cfD_va ho hcf
  exact r.row.oct

theorem chkC_zero {lst : Mp} {out : Bool} {ms : List Mz} (h : chkC lst out ms = 0) : ms.length ≤ 64 ∧ (∀ x ∈ ms, cfD lst out x = 0) ∧ (∀ x ∈ ms, 0 ≤ x.b) ∧ sumB (ms.map Mz.q) ms.length ≤ 64 := by
  have hl : ms.length ≤ 64 := by
    unfold chkC at h
    split at h
    · exact absurd h (by decide)
    · omega
  have hz : (∀ x ∈ ms, cfD lst out x = 0) ∧ 0 + (ms.map (·.b)).sum ≤ 64 := by
    unfold chkC at h
    rw [if_neg (by omega)] at h
    exact chkZ_zero _ ms 0 h (by decide)
  have hb : ∀ x ∈ ms, 0 ≤ x.b := fun x hx => (cfD_bd (hz.1 x hx)).1
  refine ⟨hl, hz.1, hb, ?_⟩
  unfold sumB
  rw [List.take_of_length_le (by simp)]
  have := sum_q ms hb
  omega

end Go.Proofs.YtcdmldnaagiicaaDoor
namespace Go.Proofs.YtcdmldnaagiicaaDoor
open Go.ChangeShapes Go.WideShapes Go.ChangeAt Go.RowKit

/-- A value that came in. -/
structure Vz where
  i : Int
  s : Int
  a : Option Addr
  n : Nat
  c : Nat
  z : List Int
def VzAt (W : World) (g off : Nat) (vs : List Vz) : Prop := ∀ (k : Nat) (x : Vz), vs[k]? = some x → W.cell? ⟨g, off + k * 3, none⟩ = some (.int .u16 x.i) ∧ W.cell? ⟨g, off + k * 3 + 1, none⟩ = some (.int .u8 x.s) ∧ W.cell? ⟨g, off + k * 3 + 2, none⟩ = some (.slice x.a x.n x.c)
structure IsVz (w : World) (a : Option Addr) (len : Nat) (vs : List Vz) : Prop where
  size : vs.length = len
  ok : ∀ x ∈ vs, SlOk w x.a x.n x.c x.z ∧ x.n ≤ 140737488355328
  at_ : 0 < len → ∃ b off, a = some ⟨b, off, none⟩ ∧ VzAt w b off vs
theorem cellsVz : Tryd.prog.cellsOf 36 = 3 := by kernel_rfl
set_option maxRecDepth 100000 in
theorem open_vz1 {H : Type} {enc : TypeId × Value → H} {w : World} {base : Nat} {spare : Nat → Bool} {held : Bool} {fuel : Nat} {cs : List Value} {y : DataW H × List MemPlace}
    (h : DataW.trod enc Tryd.prog w base spare held fuel 36 cs = some y) (hw : ∀ n ∈ y.1.weights Tryd.prog 36, n ≤ reachBytes) : ∃ x : Vz, (SlOk w x.a x.n x.c x.z ∧ x.n ≤ 140737488355328) ∧ cs = [.int .u16 x.i, .int .u8 x.s, .slice x.a x.n x.c] := by
  obtain ⟨xs, m, _, ey, hl, hlen, hf⟩ := DataW.trod_struct Tryd.underlying36 h
  rw [cellsVz] at hl
  have HW : Hid (∀ (t : TypeId) (j : Nat) (z : DataW H × List MemPlace), ([33, 34] : List TypeId)[j]? = some t → xs[j]? = some z → ∀ n ∈ z.1.weights Tryd.prog t, n ≤ reachBytes) := fun t j z ht hz n hn => hw n (by
    subst ey
    simp only [DataW.weights, Tryd.underlying36]
    exact DataW.weights_mem_each (j := j) (t := t) (d := z.1) ht (by rw [List.getElem?_map, hz]; rfl) n hn)
  clear hw ey
  match cs, hl with
  | [c0, c1, c2], _ =>
    have f0 : DataW.trod enc Tryd.prog w base spare held m 33 (([c0, c1, c2].drop 0).take (Tryd.prog.cellsOf 33)) = xs[0]? := hf 0 _ rfl
    have f1 : DataW.trod enc Tryd.prog w base spare held m 34 (([c0, c1, c2].drop 2).take (Tryd.prog.cellsOf 34)) = xs[1]? := hf 1 _ rfl
    rw [cellsPl] at f0
    rw [cellsOs] at f1
    match xs, hlen with
    | [y0, y1], _ =>
      obtain ⟨a, za, ca, e2, ra, pa, qa, oa⟩ := open_rowO f1 (HW.out 34 1 y1 rfl rfl)
      obtain ⟨zs, m2, _, _, hl2, hlen2, hf2⟩ := DataW.trod_struct Tryd.underlying33 f0
      have g0 : DataW.trod enc Tryd.prog w base spare held m2 31 (([c0, c1].drop 0).take (Tryd.prog.cellsOf 31)) = zs[0]? := hf2 0 _ rfl
      have g1 : DataW.trod enc Tryd.prog w base spare held m2 5 (([c0, c1].drop 1).take (Tryd.prog.cellsOf 5)) = zs[1]? := hf2 1 _ rfl
      rw [cellsOh] at g0
      rw [cellsO] at g1
      match zs, hlen2 with
      | [z0, z1], _ =>
        obtain ⟨i, e0, _, k0⟩ := DataW.trod_int Tryd.underlying31 g0
        obtain ⟨s, e1, _, _⟩ := DataW.trod_int Tryd.underlying5 g1
        simp at e0 e1 e2
        subst e0 e1 e2
        exact ⟨⟨i, s, a, za.length, ca, za⟩, ⟨⟨ra, pa, qa⟩, oa⟩, rfl⟩
theorem open_vz {H : Type} {enc : TypeId × Value → H} {w : World} {base : Nat} {spare : Nat → Bool} {held : Bool} {fuel : Nat} {v : Value} {y : DataW H × List MemPlace}
    (h : DataW.trod enc Tryd.prog w base spare held fuel 24 [v] = some y) (hw : ∀ n ∈ y.1.weights Tryd.prog 24, n ≤ reachBytes) :
    ∃ a len cap l, v = .slice a len cap ∧ IsVz w a len l ∧ len ≤ cap ∧ cap ≤ maxLen := by
  rcases DataW.trod_slice Tryd.underlying24 h with ⟨h0, _⟩ | ⟨a, len, cap, elems, rest, n, _, h0, rfl, hb, hl, hm, hlen, hel, hsp, hns⟩
  · cases h0
    exact ⟨none, 0, 0, [], rfl, ⟨rfl, (fun x hx => by cases hx), fun hp => absurd hp (by decide)⟩, Nat.le_refl _, by decide⟩
  · cases h0
    rw [cellsVz] at hel
    have each : ∀ i : Nat, ∃ X : Vz, i < len → (SlOk w X.a X.n X.c X.z ∧ X.n ≤ 140737488355328) ∧ (∀ j v, [Value.int .u16 X.i, .int .u8 X.s, .slice X.a X.n X.c][j]? = some v → w.cell? ((a.add (i * 3)).add j) = some v) := fun i => by
      by_cases hi : i < len
      · have := hel i hi
        rw [List.getElem?_eq_getElem (by omega), Option.bind_eq_some_iff] at this
        obtain ⟨cs, hcs, ht⟩ := this
        obtain ⟨x, hx, rfl⟩ := open_vz1 ht (fun n hn => hw n (by
          simp only [DataW.weights, Tryd.underlying24, List.mem_cons, List.mem_append]
          exact .inr (.inl (mem_wA (List.mem_map.2 ⟨_, List.getElem_mem _, rfl⟩) n hn))))
        refine ⟨x, fun _ => ⟨hx, fun j v hv => ?_⟩⟩
        have hj : j < 3 := (List.getElem?_eq_some_iff.1 hv).1
        rw [(World.cells?_some hcs).2.2 j hj]; exact hv
      · exact ⟨⟨0, 0, none, 0, 0, []⟩, fun h => absurd h hi⟩
    obtain ⟨f, hf⟩ := Classical.axiomOfChoice each
    refine ⟨some a, len, cap, (List.range len).map f, rfl, ⟨by simp, fun x hx => ?_, fun hp => ?_⟩, hl, hm⟩
    · obtain ⟨i, hi, rfl⟩ := List.mem_map.1 hx
      exact (hf i (List.mem_range.1 hi)).1
    · obtain ⟨b, off, spot⟩ := a
      have h0 := (hf 0 hp).2 0 _ rfl
      have hs : spot = none := by simpa [Addr.add] using World.cell?_spot h0
      subst hs
      refine ⟨b, off, rfl, fun i x hx => ?_⟩
      obtain ⟨hi, rfl⟩ : i < len ∧ f i = x := by
        rw [List.getElem?_map] at hx
        by_cases hi : i < len
        · rw [List.getElem?_range hi] at hx
          exact ⟨hi, by simpa using hx⟩
        · rw [List.getElem?_eq_none (by simpa using hi)] at hx
          cases hx
      have hc := (hf i hi).2
      simp only [Addr.add_lit] at hc
      exact ⟨by simpa using hc 0 _ rfl, hc 1 _ rfl, hc 2 _ rfl⟩
#print axioms open_vz
end Go.Proofs.YtcdmldnaagiicaaDoor
