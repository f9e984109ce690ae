/-
  The law's tells: do both tell the same?
-/
import Derived.Test.YtnbdnmfnmnboiaaZu
namespace Go.Proofs.Ytnbdnmfnmnboiaa
open Go.RowKit

theorem OwnAt.set1 {w : World} {g o n cap : Nat} {xs : List Value} (h : OwnAt w 52 1 g o n cap xs) (i : Nat) (hi : i < n) (u : Value) : OwnAt (w.setCell ⟨g, o + i, none⟩ u) 52 1 g o n cap (xs.set i u) := by
  obtain ⟨cur, c1, c2, c3⟩ := h.cur
  refine ⟨by rw [List.length_set]; exact h.len, ⟨_, heap_setCell_same _ _ _ _ _ _ c1, by simpa using c2, ?_⟩, h.nc, h.cm⟩
  rw [← c3]
  simp only [Array.toList_setIfInBounds]
  apply List.ext_getElem?
  intro j
  simp only [List.getElem?_take, List.getElem?_drop, List.getElem?_set, List.length_take, List.length_drop]
  have hc := h.nc
  have hl : cur.toList.length = cur.size := Array.length_toList
  by_cases hj : j < n * 1
  · rw [if_pos hj, if_pos hj]
    by_cases e : i = j
    · subst e
      rw [if_pos rfl, if_pos (by omega), if_pos rfl, if_pos (by omega)]
    · rw [if_neg (by omega), if_neg e]
  · rw [if_neg hj, if_neg hj]
    by_cases e : i = j
    · subst e; omega
    · rw [if_neg e]
/-- When the next one may be told. -/
def ES.dv (S : ES) : Int := if S.ws = [] then 0 else S.due
theorem due_any {w : World} {p m : Nat} {v : Value} {S : ES} (h : IsE w p m v S) : Calls Try.prog 18 #[.pointer (some ⟨p, 0, none⟩)] w fun e w' => e = .returned (.tuple #[.int .i64 S.dv, .bool (!S.ws.isEmpty)]) ∧ Below w.heap.size w w' := by
  unfold ES.dv
  cases hw : S.ws with
  | nil =>
    refine (due_no h hw).mono ?_
    rintro e w' ⟨rfl, rfl⟩
    exact ⟨rfl, Below.refl _ _⟩
  | cons x l =>
    refine (due_yes h (by rw [hw]; simp)).mono ?_
    rintro e w' ⟨rfl, rfl⟩
    exact ⟨rfl, Below.refl _ _⟩
theorem rdue_any {w : World} {q : Nat} {sv fv wv : Value} {S : ES} {t : Int} (h : IsD w q sv fv wv S t) : Calls Try.prog 31 #[.pointer (some ⟨q, 0, none⟩)] w fun e w' => e = .returned (.tuple #[.int .i64 S.dv, .bool (!S.ws.isEmpty)]) ∧ Below w.heap.size w w' := by
  unfold ES.dv
  cases hw : S.ws with
  | nil =>
    refine (rdue_no h hw).mono ?_
    rintro e w' ⟨rfl, rfl⟩
    exact ⟨rfl, Below.refl _ _⟩
  | cons x l =>
    refine (rdue_yes h (by rw [hw]; simp)).mono ?_
    rintro e w' ⟨rfl, hb⟩
    exact ⟨rfl, hb⟩
/-- The fields that both have. -/
def ES.fl (S : ES) : List Value := (S.hs.take S.ln).map (Value.int .u32)
theorem ES.fl_at (S : ES) (h : S.Ok) (i : Nat) (hi : i < S.ln) : ∃ z : Int, S.fl[i]? = some (.int .u32 z) := by
  refine ⟨S.hs.getD i 0, ?_⟩
  have h1 := h.h16
  have h2 := h.l16
  have : i < S.hs.length := by omega
  simp [ES.fl, hi, List.getD_eq_getElem?_getD, this]
set_option linter.unusedSimpArgs false in
set_option maxHeartbeats 4000000 in
set_option maxRecDepth 100000 in
theorem tells_any {w0 w : World} {p m q : Nat} {S : ES} {A : List Nat} (h : Tw w0 w p m q S S A) (c : Int) : Calls Try.prog 12 #[.pointer (some ⟨p, 0, none⟩), .pointer (some ⟨q, 0, none⟩), .int .u16 c] w fun e w' => e = .returned (.bool true) ∧ Below w.heap.size w w' := by
  obtain ⟨v, sv, fv, wv, t, e, d, _, _, _, _⟩ := h
  have E : Hid (∀ W, Below w.heap.size w W → IsE W p m v S) := fun W hW => e.next hW
  have D : Hid (∀ W, Below w.heap.size w W → IsD W q sv fv wv S t) := fun W hW => d.next hW
  have HI := history_any e
  obtain ⟨ln, hln⟩ : ∃ ln, Hid (ln = S.ln) := ⟨_, rfl⟩
  have LN : Hid (ln ≤ 16) := by show _ ≤ _; rw [hln.out]; exact e.ok.l16
  have FL : Hid (∀ i, i < ln → ∃ z : Int, S.fl[i]? = some (.int .u32 z)) := fun i hi => S.fl_at e.ok i (by rw [← hln.out]; exact hi)
  obtain ⟨rg, hrg⟩ : ∃ rg : Int, Hid (rg = (S.reg : Int)) := ⟨_, rfl⟩
  obtain ⟨hs, hhs⟩ : ∃ hs, Hid (hs = S.has c) := ⟨_, rfl⟩
  obtain ⟨dv, hdv⟩ : ∃ dv, Hid (dv = S.dv) := ⟨_, rfl⟩
  obtain ⟨db, hdb⟩ : ∃ db, Hid (db = !S.ws.isEmpty) := ⟨_, rfl⟩
  obtain ⟨fa, fc, hfv⟩ : ∃ a cap, fv = .slice a ln cap := by rw [hln.out]; exact d.fs.form
  have DE : Hid (∀ W, Below w.heap.size w W → Calls Try.prog 18 #[.pointer (some ⟨p, 0, none⟩)] W fun e w' => e = .returned (.tuple #[.int .i64 dv, .bool db]) ∧ Below W.heap.size W w') := fun W hW => by rw [hdv.out, hdb.out]; exact due_any (E.out W hW)
  have DD : Hid (∀ W, Below w.heap.size w W → Calls Try.prog 31 #[.pointer (some ⟨q, 0, none⟩)] W fun e w' => e = .returned (.tuple #[.int .i64 dv, .bool db]) ∧ Below W.heap.size W w') := fun W hW => by rw [hdv.out, hdb.out]; exact rdue_any (D.out W hW)
  have RE : Hid (∀ W, Below w.heap.size w W → Calls Try.prog 19 #[.pointer (some ⟨p, 0, none⟩)] W fun e w' => e = .returned (.int .u8 rg) ∧ Below W.heap.size W w') := fun W hW => by rw [hrg.out]; exact register_any (E.out W hW)
  have RD : Hid (∀ W, Below w.heap.size w W → Calls Try.prog 32 #[.pointer (some ⟨q, 0, none⟩)] W fun e w' => e = .returned (.int .u8 rg) ∧ w' = W) := fun W hW => by rw [hrg.out]; exact rregister_any (D.out W hW)
  have SE : Hid (∀ W, Below w.heap.size w W → Calls Try.prog 23 #[.pointer (some ⟨p, 0, none⟩), .int .u16 c] W fun e w' => e = .returned (.bool hs) ∧ w' = W) := fun W hW => by rw [hhs.out]; exact stands_any (E.out W hW) c
  have SD : Hid (∀ W, Below w.heap.size w W → Calls Try.prog 33 #[.pointer (some ⟨q, 0, none⟩), .int .u16 c] W fun e w' => e = .returned (.bool hs) ∧ w' = W) := fun W hW => by rw [hhs.out]; exact rstands_any (D.out W hW) c
  have FD : Hid (∀ W, Below w.heap.size w W → W.cell? ⟨q, 3, none⟩ = some (.slice fa ln fc) ∧ Own W 52 1 (.slice fa ln fc) ln S.fl) := fun W hW => by
    have hd := D.out W hW
    have h1 := hd.cell 3 fv rfl
    have h2 := hd.fs
    rw [hfv] at h1 h2
    rw [← hln.out] at h2
    refine ⟨h1, ?_⟩
    have e1 : S.fl = (S.hs.take ln).map (Value.int .u32) := by unfold ES.fl; rw [hln.out]
    rw [e1]
    exact h2
  have LQ : Hid (q < w.heap.size) := d.lt
  clear e d E D hfv
  go_enter Try.func12, Try.ntmps12
  go_wp2_with fail
  refine HI.mono ?_
  rintro e w1 ⟨g, o, cap, rfl, hO, hg, b1⟩
  rw [← hln.out] at hO ⊢
  clear HI
  go_wp2_with fail
  refine (DE.out _ b1).mono ?_
  rintro e w2 ⟨rfl, b2⟩
  have B2 := Below.andThen b1 b2
  go_wp2_with fail
  refine (DD.out _ B2).mono ?_
  rintro e w3 ⟨rfl, b3⟩
  have B3 := Below.andThen B2 b3
  go_wp2_with fail
  refine (RE.out _ B3).mono ?_
  rintro e w4 ⟨rfl, b4⟩
  have B4 := Below.andThen B3 b4
  have hO4 : OwnAt w4 52 1 g o ln cap S.fl := by
    have h2 := ((hO.same (b2.block g hO.lt)))
    have h3 := h2.same (b3.block g h2.lt)
    have h4 := h3.same (b4.block g h3.lt)
    have e1 : S.fl = (S.hs.take ln).map (Value.int .u32) := by unfold ES.fl; rw [hln.out]
    rw [e1]
    exact h4
  clear hO b1 b2 b3 b4 B2 B3 DE DD RE
  go_wp2_with fail
  refine (RD.out _ B4).mono ?_
  rintro e w5 ⟨rfl, rfl⟩
  clear RD
  go_wp2_with fail
  refine (SE.out _ B4).mono ?_
  rintro e w5 ⟨rfl, rfl⟩
  clear SE
  go_wp2_with fail
  refine (SD.out _ B4).mono ?_
  rintro e w5 ⟨rfl, rfl⟩
  clear SD
  have k3 := (FD.out _ B4).1
  have BH : Hid (Below w.heap.size w w5) := B4
  have OH : Hid (OwnAt w5 52 1 g o ln cap S.fl) := hO4
  have GH : Hid (w.heap.size ≤ g) := hg
  clear B4 hO4 hg
  go_wp2_with fail
  go_loopw [12] (fun u wr => ∃ i : Nat, i ≤ ln ∧ u = .int .i64 (i : Int) ∧ Hid (Below w.heap.size w wr ∧ ∃ xs, OwnAt wr 52 1 g o ln cap xs ∧ ∀ j, i ≤ j → xs[j]? = S.fl[j]?)) (fun u _ => ln - (intOf u).toNat)
  case atStart => exact ⟨0, Nat.zero_le _, rfl, BH.out, _, OH.out, fun _ _ => rfl⟩
  case round =>
    clear BH OH k3
    obtain ⟨i, hi, rfl, HR⟩ := hrel
    by_cases hlt : i < ln
    · have g1 : (i : Int) < (ln : Int) := by omega
      obtain ⟨B, xs, hX, hxs⟩ := HR.out
      obtain ⟨z, hz⟩ := FL.out i hlt
      obtain ⟨k3, hF⟩ := FD.out _ B
      obtain ⟨gf, of, cf, ef, hFA⟩ := hF.pos (by omega)
      cases ef
      have cF := hFA.cell i _ hz
      have cH := hX.cell i _ (by rw [hxs i (Nat.le_refl _)]; exact hz)
      have wi : IntKind.i64.wrap ((i : Int) + 1) = ((i + 1 : Nat) : Int) := by rw [IntKind.wrap_i64]; have := LN.out; omega
      have lg := hX.lt
      obtain ⟨cur, cu, _⟩ := hX.cur
      have NEW : Hid (∀ n, Below w.heap.size w ((wr.drewN n).setCell ⟨g, o + i, none⟩ (.int .u32 99)) ∧ ∃ xs, OwnAt ((wr.drewN n).setCell ⟨g, o + i, none⟩ (.int .u32 99)) 52 1 g o ln cap xs ∧ ∀ j, i + 1 ≤ j → xs[j]? = S.fl[j]?) := fun n =>
        ⟨Below.setCell (Below.trans B ((below_drewN (Below.refl _ _) n).mono B.size)) GH.out _, _, (hX.same (w' := wr.drewN n) ((below_drewN (Below.refl wr.heap.size wr) n).block g lg)).set1 i hlt _, fun j hj => by rw [List.getElem?_set_ne (by omega)]; exact hxs j (by omega)⟩
      have fz := froz11 wr g (o + i) _ _ cu
      have CUH : Hid (wr.heap[g]? = some (.cells cur 52 (0, 0))) := cu
      clear B hX hxs hF hFA hz HR cu
      go_wp2_with fail
      go_quiet (fail)
      have cq : (wr.drewN nq).cell? ⟨g, o + i, none⟩ = some (.int .u32 z) := cl11 (below_drewN (Below.refl _ _) nq) cH
      have fq := froz11 (wr.drewN nq) g (o + i) _ _ (blk11 (below_drewN (Below.refl _ _) nq) CUH.out)
      have lq2 : g < (wr.drewN nq).heap.size := lt_of_heap (blk11 (below_drewN (Below.refl _ _) nq) CUH.out)
      clear cF cH k3 fz lg
      go_wp2_with fail
      exact ⟨⟨i + 1, by omega, by go_num, NEW.out nq⟩, by simp [intOf]; omega⟩
    · have g1 : ¬ (i : Int) < (ln : Int) := by omega
      have BF : Hid (Below w.heap.size w wr) := HR.out.1
      clear HR
      go_wp2_with fail
      go_ret
      exact ⟨rfl, BF.out⟩
#print axioms tells_any
end Go.Proofs.Ytnbdnmfnmnboiaa
