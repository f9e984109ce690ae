/-
  Rows of calls that came in; the law's large.
  What the reading takes is within reach.
-/
import Derived.Test.YtgpbmccjcjoijaaKk
import Derived.WalkKit
import Derived.ProofKit
import Derived.OpenShut
import Derived.SizedLaws
namespace Go.Proofs.Ytgpbmccjcjoijaa
open Go.ChangeShapes Go.WideShapes Go.ChangeAt Go.RowKit

structure Opx.Wk (x : Opx) : Prop where
  k0 : 0 ≤ x.kind ∧ x.kind < 256
  g0 : 0 ≤ x.grp ∧ x.grp < 256
  oct : Oct x.bs
  big : x.bs.length ≤ 140737488355328
  m0 : 0 ≤ x.more ∧ x.more < 65536
theorem Opx.Wk.ok {x : Opx} (h : x.Wk) (hl : x.bs.length ≤ 20000) : x.Ok := ⟨h.k0, h.g0, h.oct, hl, h.m0⟩
/-- A row of calls in memory. -/
structure IsOx (w : World) (a : Option Addr) (len : Nat) (l : List Opx) : Prop where
  size : l.length = len
  ok : ∀ x ∈ l, x.Wk
  at_ : 0 < len → ∃ b off, a = some ⟨b, off, none⟩ ∧ ∀ i x, l[i]? = some x → ∃ ab cb, w.cell? ⟨b, off + i * 4, none⟩ = some (.int .u8 x.kind) ∧ w.cell? ⟨b, off + i * 4 + 1, none⟩ = some (.int .u8 x.grp) ∧ w.cell? ⟨b, off + i * 4 + 2, none⟩ = some (.slice ab x.bs.length cb) ∧ w.cell? ⟨b, off + i * 4 + 3, none⟩ = some (.int .u16 x.more) ∧ Row w ab x.bs.length x.bs
theorem IsOx.next {w w' : World} {a : Option Addr} {len : Nat} {l : List Opx} (h : IsOx w a len l) (hb : Below w.heap.size w w') : IsOx w' a len l :=
  ⟨h.size, h.ok, fun hp => by
    obtain ⟨b, off, e, hc⟩ := h.at_ hp
    refine ⟨b, off, e, fun i x hx => ?_⟩
    obtain ⟨ab, cb, c0, c1, c2, c3, r⟩ := hc i x hx
    have hl : b < w.heap.size := block_lt_of_cell c0
    exact ⟨ab, cb, by rw [hb.cell hl]; exact c0, by rw [hb.cell hl]; exact c1, by rw [hb.cell hl]; exact c2, by rw [hb.cell hl]; exact c3, r.next hb⟩⟩
theorem IsOx.get {w : World} {a : Option Addr} {len : Nat} {l : List Opx} (h : IsOx w a len l) (i : Nat) (hi : i < len) : ∃ b off x ab cb, l[i]? = some x ∧ x ∈ l ∧ a = some ⟨b, off, none⟩ ∧ w.cell? ⟨b, off + i * 4, none⟩ = some (.int .u8 x.kind) ∧ w.cell? ⟨b, off + i * 4 + 1, none⟩ = some (.int .u8 x.grp) ∧ w.cell? ⟨b, off + i * 4 + 2, none⟩ = some (.slice ab x.bs.length cb) ∧ w.cell? ⟨b, off + i * 4 + 3, none⟩ = some (.int .u16 x.more) ∧ Row w ab x.bs.length x.bs := by
  obtain ⟨b, off, e, hc⟩ := h.at_ (by omega)
  have hx : l[i]? = some (l[i]'(by rw [h.size]; exact hi)) := List.getElem?_eq_getElem _
  obtain ⟨ab, cb, c0, c1, c2, c3, r⟩ := hc i _ hx
  exact ⟨b, off, _, ab, cb, hx, List.mem_of_getElem? hx, e, c0, c1, c2, c3, r⟩

def Most (l : List Opx) (i n : Nat) : Prop := ∀ k x, k < i → l[k]? = some x → x.bs.length ≤ n
def LargePost (w : World) (len : Nat) (l : List Opx) (e : Ending) (w' : World) : Prop := ∃ r, e = .returned (.bool r) ∧ (r = false → len ≤ 60 ∧ ∀ x ∈ l, x.bs.length ≤ 20000) ∧ w' = w

set_option linter.unusedSimpArgs false in
set_option maxHeartbeats 4000000 in
set_option maxRecDepth 100000 in
theorem large_any {w : World} {a : Option Addr} {len : Nat} {l : List Opx} (h : IsOx w a len l) (cap : Nat) (hlm : len ≤ maxLen) :
    Calls Try.prog 8 #[.slice a len cap] w fun e w' => LargePost w len l e w' := by
  have H : Hid (IsOx w a len l) := h
  have hsz := h.size
  have hlm' : len ≤ 9223372036854775807 := hlm
  clear h
  go_enter Try.func8, Try.ntmps8
  go_wp2_with fail
  go_loopw [3, 4] (fun u v wr => ∃ i n : Nat, i ≤ len ∧ v = .int .i64 i ∧ u = .int .i64 n ∧ n ≤ 140737488375328 ∧ Most l i n ∧ wr = w) (fun _ v _ => len - (intOf v).toNat)
  case atStart => exact ⟨0, 0, by omega, rfl, rfl, by omega, (fun k x h => absurd h (by omega)), rfl⟩
  case round =>
    obtain ⟨i, n, hi, rfl, rfl, hn, hx, rfl⟩ := hrel
    have HX : Hid (Most l i n) := hx
    clear hx
    by_cases hlt : i < len
    · have g1 : (i : Int) < (len : Int) := by omega
      have g2 : (0 : Int) ≤ i := by omega
      by_cases h2 : n ≤ 20000
      · have g3 : (n : Int) ≤ 20000 := by omega
        obtain ⟨b, off, x, ab, cb, hxi, hm, rfl, c0, c1, c2, c3, r⟩ := H.out.get i hlt
        have hb := (H.out.ok x hm).big
        have HN : Hid (Most l (i + 1) (n + x.bs.length)) := fun k y hk hy => by
          by_cases hk2 : k < i
          · have := HX.out k y hk2 hy; omega
          · obtain rfl : k = i := by omega
            rw [hxi] at hy
            cases hy
            omega
        generalize x.bs.length = m at *
        clear r c0 c1 c3
        go_wp2_with fail
        exact ⟨⟨i + 1, n + m, by omega, by go_num, by go_num, by omega, HN.out, trivial⟩, by simp [intOf]; omega⟩
      · have g3 : ¬ (n : Int) ≤ 20000 := by omega
        have g4 : (n : Int) > 20000 := by omega
        by_cases h60 : len ≤ 60
        · have g5 : ¬ (len : Int) > 60 := by omega
          go_wp2_with fail
          go_ret
          exact ⟨_, rfl, fun h => by simp at h, rfl⟩
        · have g5 : (len : Int) > 60 := by omega
          go_wp2_with fail
          go_ret
          exact ⟨_, rfl, fun h => by simp at h, rfl⟩
    · obtain rfl : i = len := by omega
      have g1 : ¬ (i : Int) < (i : Int) := by omega
      by_cases h60 : i ≤ 60
      · have g5 : ¬ (i : Int) > 60 := by omega
        by_cases h2 : n ≤ 20000
        · have g4 : ¬ (n : Int) > 20000 := by omega
          have HF : Hid (∀ x ∈ l, x.bs.length ≤ 20000) := fun x hx => by
            obtain ⟨k, hk, e⟩ := List.mem_iff_getElem.1 hx
            have := HX.out k x (by omega) (by rw [List.getElem?_eq_getElem hk, e])
            omega
          go_wp2_with fail
          go_ret
          exact ⟨_, rfl, fun _ => ⟨h60, HF.out⟩, rfl⟩
        · have g4 : (n : Int) > 20000 := by omega
          go_wp2_with fail
          go_ret
          exact ⟨_, rfl, fun h => by simp at h, rfl⟩
      · have g5 : (i : Int) > 60 := by omega
        go_wp2_with fail
        go_ret
        exact ⟨_, rfl, fun h => by simp at h, rfl⟩

theorem cellsOp : Try.prog.cellsOf 36 = 4 := by kernel_rfl
theorem cellsB : Try.prog.cellsOf 5 = 1 := by kernel_rfl
theorem cellsBs : Try.prog.cellsOf 33 = 1 := by kernel_rfl
theorem cellsU16 : Try.prog.cellsOf 34 = 1 := by kernel_rfl
theorem wf_b {n : Int} (h : (Lit.int .u8 n).wf = true) : 0 ≤ n ∧ n < 256 := by
  simp [Lit.wf, IntKind.min, IntKind.max, IntKind.signed, IntKind.bits] at h
  omega
theorem wf_u16 {n : Int} (h : (Lit.int .u16 n).wf = true) : 0 ≤ n ∧ n < 65536 := by
  simp [Lit.wf, IntKind.min, IntKind.max, IntKind.signed, IntKind.bits] at h
  omega
theorem mem_weightsAll {H : Type} {P : Program} {e : TypeId} : ∀ {l : List (DataW H)} {d : DataW H}, d ∈ l → ∀ n ∈ d.weights P e, n ∈ DataW.weightsAll P e l
  | d0 :: l, d, hd, n, hn => by
    simp only [DataW.weightsAll, List.mem_append]
    rcases List.mem_cons.1 hd with rfl | hd
    · exact .inl hn
    · exact .inr (mem_weightsAll hd n hn)
theorem bytes8 : Try.prog.bytesOf 5 = 1 := by kernel_rfl
/-- Bytes that came in. -/
theorem open_row {H : Type} {enc : TypeId × Value → H} {w : World} {base : Nat} {spare : Nat → Bool} {held : Bool} {fuel : Nat} {cs : List Value} {y : DataW H × List MemPlace}
    (h : DataW.trod enc Try.prog w base spare held fuel 33 cs = some y) (hw : ∀ n ∈ y.1.weights Try.prog 33, n ≤ reachBytes) : ∃ a zs cap, cs = [.slice a zs.length cap] ∧ Row w a zs.length zs ∧ zs.length ≤ cap ∧ cap ≤ maxLen ∧ zs.length ≤ 140737488355328 := by
  rcases open_ints Try.underlying33 Try.underlying5 cellsB h with ⟨rfl, _⟩ | ⟨x, l, c, zs, rfl, _, hl, hm, hz, rfl, hcell, hwz⟩
  · exact ⟨none, [], 0, rfl, row_nil w, Nat.le_refl _, by decide, by simp⟩
  · have hlz : l ≤ zs.length := by rw [hz]; split <;> omega
    have e : (zs.take l).length = l := by rw [List.length_take]; omega
    have hw2 := hw (((lits (H := H) .u8 (zs.take l)).length + (lits (H := H) .u8 (zs.drop l)).length) * Try.prog.bytesOf 5) (by simp [DataW.weights, Try.underlying33])
    have hl8 : (zs.take l).length ≤ 140737488355328 := by
      rw [bytes8] at hw2
      have := reachBytes_lt
      simp only [lits, List.length_map, Nat.mul_one] at hw2
      omega
    refine ⟨some x, zs.take l, c, by rw [e], ⟨rfl, fun n hn => wf_b (hwz n (List.mem_of_mem_take hn)), fun hp => ?_⟩, by omega, hm, hl8⟩
    rw [e] at hp
    obtain ⟨b, off, spot⟩ := x
    have h0 := hcell 0 (by omega)
    have hs : spot = none := by simpa [Addr.add] using World.cell?_spot h0
    subst hs
    refine ⟨b, off, rfl, fun i hi => ?_⟩
    rw [e] at hi
    have := hcell i (by omega)
    rw [show (⟨b, off, none⟩ : Addr).add i = ⟨b, off + i, none⟩ from by simp [Addr.add]] at this
    rw [this]
    simp [List.getD_eq_getElem?_getD, hi]
set_option maxRecDepth 100000 in
/-- One call's cells. -/
theorem open_op {H : Type} {enc : TypeId × Value → H} {w : World} {base : Nat} {spare : Nat → Bool} {held : Bool} {fuel : Nat} {cs : List Value} {y : DataW H × List MemPlace}
    (h : DataW.trod enc Try.prog w base spare held fuel 36 cs = some y) (hw : ∀ n ∈ y.1.weights Try.prog 36, n ≤ reachBytes) :
    ∃ (x : Opx) (ab : Option Addr) (cb : Nat), x.Wk ∧ cs = [.int .u8 x.kind, .int .u8 x.grp, .slice ab x.bs.length cb, .int .u16 x.more] ∧ Row w ab x.bs.length x.bs := by
  obtain ⟨xs, m, _, ey, hl, hlen, hf⟩ := DataW.trod_struct Try.underlying36 h
  rw [cellsOp] at hl
  have HW : Hid (∀ (t : TypeId) (j : Nat) (z : DataW H × List MemPlace), ([5, 5, 33, 34] : List TypeId)[j]? = some t → xs[j]? = some z → ∀ n ∈ z.1.weights Try.prog t, n ≤ reachBytes) := fun t j z ht hz n hn => hw n (by
    subst ey
    simp only [DataW.weights, Try.underlying36]
    exact DataW.weights_mem_each (j := j) (t := t) (d := z.1) ht (by rw [List.getElem?_map, hz]; rfl) n hn)
  clear hw ey
  match cs, hl with
  | [c0, c1, c2, c3], _ =>
    have f0 : DataW.trod enc Try.prog w base spare held m 5 (([c0, c1, c2, c3].drop 0).take (Try.prog.cellsOf 5)) = xs[0]? := hf 0 _ rfl
    have f1 : DataW.trod enc Try.prog w base spare held m 5 (([c0, c1, c2, c3].drop 1).take (Try.prog.cellsOf 5)) = xs[1]? := hf 1 _ rfl
    have f2 : DataW.trod enc Try.prog w base spare held m 33 (([c0, c1, c2, c3].drop 2).take (Try.prog.cellsOf 33)) = xs[2]? := hf 2 _ rfl
    have f3 : DataW.trod enc Try.prog w base spare held m 34 (([c0, c1, c2, c3].drop 3).take (Try.prog.cellsOf 34)) = xs[3]? := hf 3 _ rfl
    rw [cellsB] at f0 f1
    rw [cellsBs] at f2
    rw [cellsU16] at f3
    match xs, hlen with
    | [y0, y1, y2, y3], _ =>
      obtain ⟨k, e0, _, g0⟩ := DataW.trod_int Try.underlying5 f0
      obtain ⟨g, e1, _, g1⟩ := DataW.trod_int Try.underlying5 f1
      obtain ⟨ab, zs, cb, e2, hr, hl1, hl2, hl3⟩ := open_row f2 (HW.out 33 2 y2 rfl rfl)
      obtain ⟨mo, e3, _, g3⟩ := DataW.trod_int Try.underlying34 f3
      simp at e0 e1 e2 e3
      subst e0 e1 e2 e3
      exact ⟨⟨k, g, zs, mo⟩, ab, cb, ⟨wf_b g0, wf_b g1, hr.oct, hl3, wf_u16 g3⟩, rfl, hr⟩
/-- A row of calls that came in. -/
theorem open_ops {H : Type} {enc : TypeId × Value → H} {w : World} {base : Nat} {spare : Nat → Bool} {held : Bool} {fuel : Nat} {v : Value} {y : DataW H × List MemPlace}
    (h : DataW.trod enc Try.prog w base spare held fuel 22 [v] = some y) (hw : ∀ n ∈ y.1.weights Try.prog 22, n ≤ reachBytes) :
    ∃ a len cap l, v = .slice a len cap ∧ IsOx w a len l ∧ len ≤ cap ∧ cap ≤ maxLen := by
  rcases DataW.trod_slice Try.underlying22 h with ⟨h0, _⟩ | ⟨a, len, cap, elems, rest, n, _, h0, rfl, hb, hl, hm, hlen, hel, hsp, hns⟩
  · cases h0
    exact ⟨none, 0, 0, [], rfl, ⟨rfl, (fun x hx => by cases hx), fun hp => absurd hp (by decide)⟩, Nat.le_refl _, by decide⟩
  · cases h0
    rw [cellsOp] at hel
    have each : ∀ i : Nat, ∃ X : Opx × Option Addr × Nat, i < len → X.1.Wk ∧ (∀ j v, [Value.int .u8 X.1.kind, .int .u8 X.1.grp, .slice X.2.1 X.1.bs.length X.2.2, .int .u16 X.1.more][j]? = some v → w.cell? ((a.add (i * 4)).add j) = some v) ∧ Row w X.2.1 X.1.bs.length X.1.bs := fun i => by
      by_cases hi : i < len
      · have := hel i hi
        rw [List.getElem?_eq_getElem (by omega), Option.bind_eq_some_iff] at this
        obtain ⟨cs, hcs, ht⟩ := this
        obtain ⟨x, ab, cb, hx, rfl, hr⟩ := open_op ht (fun n hn => hw n (by
          simp only [DataW.weights, Try.underlying22, List.mem_cons, List.mem_append]
          exact .inr (.inl (mem_weightsAll (List.mem_map.2 ⟨_, List.getElem_mem _, rfl⟩) n hn))))
        refine ⟨⟨x, ab, cb⟩, fun _ => ⟨hx, fun j v hv => ?_, hr⟩⟩
        have hj : j < 4 := (List.getElem?_eq_some_iff.1 hv).1
        rw [(World.cells?_some hcs).2.2 j hj]; exact hv
      · exact ⟨⟨⟨0, 0, [], 0⟩, none, 0⟩, fun h => absurd h hi⟩
    obtain ⟨f, hf⟩ := Classical.axiomOfChoice each
    refine ⟨some a, len, cap, (List.range len).map (fun i => (f i).1), rfl, ⟨by simp, fun x hx => ?_, fun hp => ?_⟩, hl, hm⟩
    · obtain ⟨i, hi, rfl⟩ := List.mem_map.1 hx
      exact (hf i (List.mem_range.1 hi)).1
    · obtain ⟨b, off, spot⟩ := a
      have h0 := (hf 0 hp).2.1 0 _ rfl
      have hs : spot = none := by simpa [Addr.add] using World.cell?_spot h0
      subst hs
      refine ⟨b, off, rfl, fun i x hx => ?_⟩
      obtain ⟨hi, rfl⟩ : i < len ∧ (f i).1 = x := by
        rw [List.getElem?_map] at hx
        by_cases hi : i < len
        · rw [List.getElem?_range hi] at hx
          exact ⟨hi, by simpa using hx⟩
        · rw [List.getElem?_eq_none (by simpa using hi)] at hx
          cases hx
      obtain ⟨_, hc, hr⟩ := hf i hi
      simp only [Addr.add_lit] at hc
      exact ⟨(f i).2.1, (f i).2.2, by simpa using hc 0 _ rfl, hc 1 _ rfl, hc 2 _ rfl, hc 3 _ rfl, hr⟩
#print axioms large_any
#print axioms open_ops
end Go.Proofs.Ytgpbmccjcjoijaa
namespace Go.Proofs.Ytgpbmccjcjoijaa
open Go.RowKit

theorem sized_of {H : Type} {P : Program} {ts us : List TypeId} {ds gs : List (DataW H)} (h : (DataW.weightsEach P (ts ++ us) (ds ++ gs)).all (· ≤ reachBytes) = true) (j : Nat) (t : TypeId) (d : DataW H) (ht : ts[j]? = some t) (hd : ds[j]? = some d) : ∀ n ∈ d.weights P t, n ≤ reachBytes := fun n hn => by
  have h1 : (ts ++ us)[j]? = some t := by rw [List.getElem?_append_left (List.getElem?_eq_some_iff.1 ht).1]; exact ht
  have h2 : (ds ++ gs)[j]? = some d := by rw [List.getElem?_append_left (List.getElem?_eq_some_iff.1 hd).1]; exact hd
  simpa using List.all_eq_true.1 h n (DataW.weights_mem_each h1 h2 n hn)
#print axioms sized_of
end Go.Proofs.Ytgpbmccjcjoijaa
