/-
  Pack.
-/
import Derived.Test.YtcdmldnaagiicaaDoorGf
namespace Go.Proofs.YtcdmldnaagiicaaDoor
open Go.RowKit

/-- Rows of noughts. -/
def zC (R : Nat) : Array Value := ((List.replicate R (0 : Int)).map (Value.int .u8)).toArray
theorem infoU : (Tryd.prog.info? 5).map (fun i => (i.zero, i.size, i.bytes)) = some (some (.int .u8 0), 1, 1) := by kernel_rfl
theorem made_zC (R : Nat) : madeCells (Value.int .u8 0).cells R = zC R := by
  apply Array.ext
  · simp [madeCells, zC]
  · intro i h1 h2
    simp [madeCells, zC, Value.cells, Nat.mod_one]
theorem mkZ (R : Nat) (h : R ≤ 16777216) (W : World) : (Instr.makeSlice 34 (.int .i64 (R : Int)) (.int .i64 (R : Int))).run Tryd.prog W = .ok (.slice (some ⟨W.heap.size, 0, none⟩) R R) (W.alloc (.cells (zC R) 5)) := by
  obtain ⟨i, hi, hz0, hz1, hz2⟩ := info_parts infoU
  have := run_makeSlice (P := Tryd.prog) W 34 5 i (.int .u8 0) Tryd.underlying34 hi hz0 .i64 .i64 R R (by omega) (by omega) (by rw [hz1]; omega) (by rw [hz2]; omega) (by omega)
  rw [this, Int.toNat_natCast, hz1, Nat.mul_one, made_zC]
/-- The value of a Map, in memory. -/
def VaOk (W : World) (lst : Mp) (val : Int → Int → List Int) (x : Mq) : Prop := ∃ nm t rt d ld cd l ll cl h lh ch tg gr v lv cv, lookP lst x.i x.s = some (.agg (itC x.i x.s nm t rt d ld cd l ll cl h lh ch tg gr v lv cv)) ∧ SlOk W v lv cv (val x.i x.s) ∧ lv ≤ 1000 ∧ x.b ≤ 8 * lv ∧ (bits .and .u8 rt 1 != 0) = true
theorem VaOk.next {W W' : World} {lst : Mp} {val : Int → Int → List Int} {x : Mq} (h : VaOk W lst val x) (hb : Below W.heap.size W W') : VaOk W' lst val x := by
  obtain ⟨nm, t, rt, d, ld, cd, l, ll, cl, h, lh, ch, tg, gr, v, lv, cv, h1, r1, r⟩ := h
  exact ⟨nm, t, rt, d, ld, cd, l, ll, cl, h, lh, ch, tg, gr, v, lv, cv, h1, r1.next hb, r⟩
theorem read_mp {W : World} {lst : Mp} {val : Int → Int → List Int} {x : Mq} {p m : Nat} {cg : Int} (h : VaOk W lst val x) (hp : W.heap[p]? = some (.cells #[.map (some m), .int .i64 cg] 58 (0, 0))) (hm : IsM W m lst) :
    Calls Tryd.prog 22 #[.pointer (some ⟨p, 0, none⟩), plV x.i x.s] W fun e w' => ∃ a' lv cap', e = .returned (.tuple #[.slice a' lv cap', .int .u32 0]) ∧ Told W w' a' lv cap' (val x.i x.s) ∧ lv ≤ 1000 ∧ x.b ≤ 8 * lv ∧ Below W.heap.size W w' := by
  obtain ⟨nm, t, rt, d, ld, cd, l, ll, cl, h, lh, ch, tg, gr, v, lv, cv, h1, r1, g1, g2, hr⟩ := h
  refine (read_at p m cg lst x.i x.s nm t rt d ld cd l ll cl h lh ch tg gr v lv cv (val x.i x.s) W hp hm h1 r1 (by omega) hr).mono ?_
  rintro e w' ⟨⟨a', cap', rfl, ht⟩, hb⟩
  exact ⟨a', lv, cap', rfl, ht, g1, g2, hb⟩
/-- What has been packed of the first ones. -/
def pk (ms : List Mq) (val : Int → Int → List Int) (R : Nat) : Nat → List Int
  | 0 => List.replicate R 0
  | k + 1 => match ms[k]? with
    | some x => layB (val x.i x.s) 0 x.b (sumB ms k) (pk ms val R k)
    | none => pk ms val R k
theorem pk_succ {ms : List Mq} {val : Int → Int → List Int} {R k : Nat} {x : Mq} (h : ms[k]? = some x) : pk ms val R (k + 1) = layB (val x.i x.s) 0 x.b (sumB ms k) (pk ms val R k) := by
  simp only [pk, h]
theorem pk_len (ms : List Mq) (val : Int → Int → List Int) (R k : Nat) : (pk ms val R k).length = R := by
  induction k with
  | zero => simp [pk]
  | succ k ih =>
    cases h : ms[k]? with
    | none =>
      have e : pk ms val R (k + 1) = pk ms val R k := by
        simp only [pk, h]
      rw [e]
      exact ih
    | some x => rw [pk_succ h]; unfold layB; rw [layL_len]; exact ih

set_option linter.unusedSimpArgs false in
set_option maxHeartbeats 4000000 in
set_option maxRecDepth 100000 in
theorem pack_ok (p m : Nat) (cg : Int) (lst : Mp) (gm N cap : Nat) (ms : List Mq) (val : Int → Int → List Int) (w : World) (hp : w.heap[p]? = some (.cells #[.map (some m), .int .i64 cg] 58 (0, 0))) (hm : IsM w m lst) (hN : ms.length = N) (h64 : N ≤ 64) (hM : MsAt w gm ms) (hO : ∀ x ∈ ms, MpOk w lst true x) (hV : ∀ x ∈ ms, VaOk w lst val x) (hs : sumB ms N ≤ 64) :
    Calls Tryd.prog 9 #[.pointer (some ⟨p, 0, none⟩), .slice (some ⟨gm, 0, none⟩) N cap] w fun e w' => ∃ g, e = .returned (.tuple #[.slice (some ⟨g, 0, none⟩) ((sumB ms N + 7) / 8) ((sumB ms N + 7) / 8), .int .u32 0]) ∧ w.heap.size ≤ g ∧ w'.heap[g]? = some (.cells ((pk ms val ((sumB ms N + 7) / 8) N).map (Value.int .u8)).toArray 5 (0, 0)) ∧ Below w.heap.size w w' := by
  obtain ⟨R, hR⟩ : ∃ R, Hid (R = (sumB ms N + 7) / 8) := ⟨_, rfl⟩
  rw [← hR.out]
  have HC : Hid (Calls Tryd.prog 8 #[.pointer (some ⟨p, 0, none⟩), .slice (some ⟨gm, 0, none⟩) N cap, .bool true] w fun e w' => e = .returned (.int .u32 0) ∧ Below w.heap.size w w') := check_ok true p m cg lst gm N cap ms w hp hm hN h64 hM hO hs
  have HS : Hid (∀ W, Below w.heap.size w W → Calls Tryd.prog 10 #[.slice (some ⟨gm, 0, none⟩) N cap] W fun e w' => e = .returned (.int .i64 (R : Int)) ∧ Below W.heap.size W w') := fun W hb => by rw [hR.out]; exact size_ok gm N cap ms W hN h64 (hM.next hb) hs
  have HRd : Hid (∀ W, Below w.heap.size w W → ∀ x ∈ ms, Calls Tryd.prog 22 #[.pointer (some ⟨p, 0, none⟩), plV x.i x.s] W fun e w' => ∃ a' lv cap', e = .returned (.tuple #[.slice a' lv cap', .int .u32 0]) ∧ Told W w' a' lv cap' (val x.i x.s) ∧ lv ≤ 1000 ∧ x.b ≤ 8 * lv ∧ Below W.heap.size W w') := fun W hb x hx => read_mp ((hV x hx).next hb) (blk11 hb hp) (hm.next hb)
  have HM : Hid (MsAt w gm ms) := hM
  have hR8 : R ≤ 8 := by have := hR.out; omega
  have MK := mkZ R (by omega)
  clear hp hm hM hO hV
  go_enter Tryd.func9, Tryd.ntmps9
  go_wp2_with fail
  refine HC.out.mono ?_
  rintro e w1 ⟨rfl, hb1⟩
  have B1 : Hid (Below w.heap.size w w1) := hb1
  clear hb1
  go_wp2_with fail
  refine (HS.out _ B1.out).mono ?_
  rintro e w2 ⟨rfl, hb2⟩
  have B2 : Hid (Below w.heap.size w w2) := Below.andThen B1.out hb2
  clear hb2
  go_wp2_with fail
  obtain ⟨g, hg⟩ : ∃ g, Hid (g = w2.heap.size) := ⟨_, rfl⟩
  rw [← hg.out]
  go_loopw [8, 24] (fun ev iv wr => ∃ k : Nat, k ≤ N ∧ iv = .int .i64 (k : Int) ∧ ev = .int .i64 ((sumB ms k : Nat) : Int) ∧ Hid (wr.heap[g]? = some (.cells ((pk ms val R k).map (Value.int .u8)).toArray 5 (0, 0)) ∧ Below w.heap.size w wr)) (fun _ iv _ => N - (intOf iv).toNat)
  case atStart => exact ⟨0, Nat.zero_le _, rfl, rfl, by rw [hg.out]; exact heap_new _ _, Below.al B2.out _⟩
  case round =>
    obtain ⟨k, hk, rfl, rfl, HR⟩ := hrel
    by_cases hkN : k < N
    · have gk : (k : Int) < (N : Int) := by omega
      have gk0 : (0 : Int) ≤ (k : Int) := by omega
      obtain ⟨x, hx⟩ : ∃ x, ms[k]? = some x := ⟨_, List.getElem?_eq_getElem (by omega)⟩
      obtain ⟨c0, c1, c2⟩ := (HM.out.next HR.out.2) k x hx
      have SS : Hid (sumB ms (k + 1) = sumB ms k + x.b) := sumB_succ hx
      have SL : Hid (sumB ms (k + 1) ≤ sumB ms N) := sumB_le ms (by omega)
      have PS : Hid (pk ms val R (k + 1) = layB (val x.i x.s) 0 x.b (sumB ms k) (pk ms val R k)) := pk_succ hx
      obtain ⟨sk, hsk⟩ : ∃ sk, Hid (sk = sumB ms k) := ⟨_, rfl⟩
      rw [← hsk.out] at SS PS ⊢
      have HX : Hid (x ∈ ms) := List.mem_of_getElem? hx
      have wk : IntKind.i64.wrap ((k : Int) + 1) = ((k + 1 : Nat) : Int) := by rw [IntKind.wrap_i64]; omega
      have ws : IntKind.i64.wrap ((sk : Int) + (x.b : Int)) = ((sk + x.b : Nat) : Int) := by have := SS.out; have := SL.out; rw [IntKind.wrap_i64]; omega
      have lgr := lt_of_heap HR.out.1
      clear hx
      go_wp2_with fail
      refine (HRd.out _ (Below.al HR.out.2 _) x HX.out).mono ?_
      rintro e w3 ⟨a', lv, cap', rfl, ht, l1, l2, hb⟩
      have B3 : Hid (Below w.heap.size w w3) := Below.andThen (Below.al HR.out.2 _) hb
      have X3 : Hid (w3.heap[wr.heap.size]? = some (.cells #[.int .u16 x.i, .int .u8 x.s, .int .i64 (x.b : Int)] 48 (0, 0))) := blk11 hb (at11 _ _ _ rfl)
      have G3 : Hid (w3.heap[g]? = some (.cells ((pk ms val R k).map (Value.int .u8)).toArray 5 (0, 0))) := blk11 hb (ext11 HR.out.1)
      have T3 : Hid (Told (wr.alloc (.cells #[.int .u16 x.i, .int .u8 x.s, .int .i64 (x.b : Int)] 48)) w3 a' lv cap' (val x.i x.s)) := ht
      have d2 : w3.cell? ⟨wr.heap.size, 2, none⟩ = some (.int .i64 (x.b : Int)) := by rw [cell_of_row _ _ 2 _ _ _ X3.out]; rfl
      have lw := lt_of_heap X3.out
      clear hb c0 c1 c2 ht
      go_wp2_with fail
      refine (bits_any a' lv cap' 0 x.b w3).mono ?_
      rintro e w4 ⟨rfl, rfl⟩
      go_wp2_with fail
      have hpl := pk_len ms val R k
      have lg3 := lt_of_heap G3.out
      refine (lay_any _ (w3.heap.size + 1 + 1) (w3.heap.size + 1) w3.heap.size g R 0 sk x.b a' lv cap' (val x.i x.s) (pk ms val R k) (by omega) (by omega) (by have := SS.out; have := SL.out; have := hR.out; omega) (by omega) hpl (by omega) (by omega) (by omega) ?_ ?_ (ext11 (ext11 (ext11 G3.out)))).mono ?_
      · intro hp b o e
        obtain ⟨g', hg', hge, _⟩ := T3.out.own hp
        rw [e] at hg'
        cases hg'
        simp at hge
        omega
      · exact ⟨at11 _ _ _ (by simp), ext11 (at11 _ _ _ (by simp)), ext11 (ext11 (at11 _ _ _ rfl)), T3.out.row.next (by repeat (first | exact Below.refl _ _ | apply Below.drew | apply Below.al))⟩
      rintro e w5 ⟨rfl, h5, k5⟩
      have B5 : Hid (Below w.heap.size w w5) := Kp.below (Below.al (Below.al (Below.al B3.out _) _) _) k5 (by have := B3.out.size; simp; omega) (by have := hg.out; have := B2.out.size; simp; omega)
      have G5 : Hid (w5.heap[g]? = some (.cells ((pk ms val R (k + 1)).map (Value.int .u8)).toArray 5 (0, 0))) := by rw [PS.out]; exact h5
      have X5 : Hid (w5.heap[wr.heap.size]? = some (.cells #[.int .u16 x.i, .int .u8 x.s, .int .i64 (x.b : Int)] 48 (0, 0))) := k5.at (by simp; omega) (ext11 (ext11 (ext11 X3.out)))
      have d5 : w5.cell? ⟨wr.heap.size, 2, none⟩ = some (.int .i64 (x.b : Int)) := by rw [cell_of_row _ _ 2 _ _ _ X5.out]; rfl
      clear h5 k5 d2
      go_wp2_with fail
      exact ⟨⟨k + 1, by omega, by go_num, by rw [SS.out]; go_num, G5.out, B5.out⟩, by simp [intOf]; omega⟩
    · obtain rfl : k = N := by omega
      go_wp2_with fail
      go_ret2
      exact ⟨g, rfl, by have := hg.out; have := B2.out.size; omega, HR.out.1, HR.out.2⟩
#print axioms pack_ok
end Go.Proofs.YtcdmldnaagiicaaDoor
