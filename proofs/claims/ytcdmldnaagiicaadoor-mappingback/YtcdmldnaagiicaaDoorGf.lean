/-
  A mapping that may be: Check, Size.
-/
import Derived.Test.YtcdmldnaagiicaaDoorGe
namespace Go.Proofs.YtcdmldnaagiicaaDoor
open Go.RowKit

/-- A Map. -/
structure Mq where
  i : Int
  s : Int
  b : Nat
/-- Maps in memory. -/
def MsAt (W : World) (g : Nat) (ms : List Mq) : Prop := ∀ (k : Nat) (x : Mq), ms[k]? = some x → W.cell? ⟨g, k * 3, none⟩ = some (.int .u16 x.i) ∧ W.cell? ⟨g, k * 3 + 1, none⟩ = some (.int .u8 x.s) ∧ W.cell? ⟨g, k * 3 + 2, none⟩ = some (.int .i64 (x.b : Int))
theorem MsAt.next {W W' : World} {g : Nat} {ms : List Mq} (h : MsAt W g ms) (hb : Below W.heap.size W W') : MsAt W' g ms := fun k x hx => by
  obtain ⟨h1, h2, h3⟩ := h k x hx
  exact ⟨by rw [hb.cell (p := ⟨g, k * 3, none⟩) (block_lt_of_cell h1)]; exact h1, by rw [hb.cell (p := ⟨g, k * 3 + 1, none⟩) (block_lt_of_cell h2)]; exact h2, by rw [hb.cell (p := ⟨g, k * 3 + 2, none⟩) (block_lt_of_cell h3)]; exact h3⟩
theorem MsAt.kp {W W' : World} {g : Nat} {ms : List Mq} {S : List Nat} (h : MsAt W g ms) (hb : Kp S W W') (hg : g ∉ S) : MsAt W' g ms := fun k x hx => by
  obtain ⟨h1, h2, h3⟩ := h k x hx
  have e := hb.block g (block_lt_of_cell h1) hg
  exact ⟨by rw [World.cell?_of_block (w := W) e]; exact h1, by rw [World.cell?_of_block (w := W) e]; exact h2, by rw [World.cell?_of_block (w := W) e]; exact h3⟩
/-- May a Map be one of a mapping, of this dictionary? -/
def MpOk (W : World) (lst : Mp) (out : Bool) (x : Mq) : Prop := ∃ nm t rt d ld cd l ll cl h lh ch tg gr v lv cv zd zl zh, lookP lst x.i x.s = some (.agg (itC x.i x.s nm t rt d ld cd l ll cl h lh ch tg gr v lv cv)) ∧ SlOk W d ld cd zd ∧ SlOk W l ll cl zl ∧ SlOk W h lh ch zh ∧ ld ≤ 16777216 ∧ ll ≤ 16777216 ∧ lh ≤ 16777216 ∧ 256 ≤ x.i ∧ x.i < 65536 ∧ (bits .and .u8 rt 4 != 0) = true ∧ hasB t (x.b : Int) = true ∧ (bits .and .u8 rt (rgt out) == 0) = false
theorem MpOk.next {W W' : World} {lst : Mp} {out : Bool} {x : Mq} (h : MpOk W lst out x) (hb : Below W.heap.size W W') : MpOk W' lst out x := by
  obtain ⟨nm, t, rt, d, ld, cd, l, ll, cl, h, lh, ch, tg, gr, v, lv, cv, zd, zl, zh, h1, r1, r2, r3, r⟩ := h
  exact ⟨nm, t, rt, d, ld, cd, l, ll, cl, h, lh, ch, tg, gr, v, lv, cv, zd, zl, zh, h1, r1.next hb, r2.next hb, r3.next hb, r⟩
theorem mcheck_mp {W : World} {lst : Mp} {out : Bool} {x : Mq} {p m : Nat} {cg : Int} (h : MpOk W lst out x) (hp : W.heap[p]? = some (.cells #[.map (some m), .int .i64 cg] 58 (0, 0))) (hm : IsM W m lst) :
    Calls Tryd.prog 21 #[mpV x.i x.s (x.b : Int), .pointer (some ⟨p, 0, none⟩), .bool out] W fun e w' => e = .returned (.int .u32 0) ∧ Below W.heap.size W w' := by
  obtain ⟨nm, t, rt, d, ld, cd, l, ll, cl, h, lh, ch, tg, gr, v, lv, cv, zd, zl, zh, h1, r1, r2, r3, g1, g2, g3, i1, i2, h4, hb, hr⟩ := h
  exact mcheck_ok out p m cg lst x.i x.s x.b nm t rt d ld cd l ll cl h lh ch tg gr v lv cv zd zl zh W hp hm h1 r1 r2 r3 g1 g2 g3 i1 i2 h4 hb hr
/-- How many bits the first ones have. -/
def sumB (ms : List Mq) (k : Nat) : Nat := ((ms.take k).map (·.b)).sum
theorem sumB_succ {ms : List Mq} {k : Nat} {x : Mq} (h : ms[k]? = some x) : sumB ms (k + 1) = sumB ms k + x.b := by
  obtain ⟨hk, he⟩ := List.getElem?_eq_some_iff.1 h
  unfold sumB
  rw [List.take_succ_eq_append_getElem hk, List.map_append, List.sum_append, he]
  simp
theorem sumB_le (ms : List Mq) {k j : Nat} (h : k ≤ j) : sumB ms k ≤ sumB ms j := by
  unfold sumB
  have : ms.take k = (ms.take j).take k := by rw [List.take_take, Nat.min_eq_left h]
  rw [this]
  generalize ms.take j = l
  clear this h
  induction l generalizing k with
  | nil => simp
  | cons x l ih =>
    cases k with
    | zero => simp
    | succ k => simp only [List.take_succ_cons, List.map_cons, List.sum_cons]; have := ih (k := k); omega

set_option linter.unusedSimpArgs false in
set_option maxHeartbeats 4000000 in
set_option maxRecDepth 100000 in
theorem check_ok (out : Bool) (p m : Nat) (cg : Int) (lst : Mp) (gm N cap : Nat) (ms : List Mq) (w : World) (hp : w.heap[p]? = some (.cells #[.map (some m), .int .i64 cg] 58 (0, 0))) (hm : IsM w m lst) (hN : ms.length = N) (h64 : N ≤ 64) (hM : MsAt w gm ms) (hO : ∀ x ∈ ms, MpOk w lst out x) (hs : sumB ms N ≤ 64) :
    Calls Tryd.prog 8 #[.pointer (some ⟨p, 0, none⟩), .slice (some ⟨gm, 0, none⟩) N cap, .bool out] w fun e w' => e = .returned (.int .u32 0) ∧ Below w.heap.size w w' := by
  have HC : Hid (∀ W, Below w.heap.size w W → ∀ x ∈ ms, Calls Tryd.prog 21 #[mpV x.i x.s (x.b : Int), .pointer (some ⟨p, 0, none⟩), .bool out] W fun e w' => e = .returned (.int .u32 0) ∧ Below W.heap.size W w') := fun W hb x hx => mcheck_mp ((hO x hx).next hb) (blk11 hb hp) (hm.next hb)
  have HM : Hid (MsAt w gm ms) := hM
  clear hp hm hM hO
  go_enter Tryd.func8, Tryd.ntmps8
  go_wp2_with fail
  go_loopw [7, 16] (fun cv iv wr => ∃ k : Nat, k ≤ N ∧ iv = .int .i64 (k : Int) ∧ cv = .int .i64 ((sumB ms k : Nat) : Int) ∧ Hid (Below w.heap.size w wr)) (fun _ iv _ => N - (intOf iv).toNat)
  case atStart => exact ⟨0, Nat.zero_le _, rfl, rfl, Below.refl _ _⟩
  case round =>
    obtain ⟨k, hk, rfl, rfl, HB⟩ := hrel
    by_cases hkN : k < N
    · have gk : (k : Int) < (N : Int) := by omega
      have gk0 : (0 : Int) ≤ (k : Int) := by omega
      obtain ⟨x, hx⟩ : ∃ x, ms[k]? = some x := ⟨_, List.getElem?_eq_getElem (by omega)⟩
      obtain ⟨c0, c1, c2⟩ := (HM.out.next HB.out) k x hx
      have SS : Hid (sumB ms (k + 1) = sumB ms k + x.b) := sumB_succ hx
      have SL : Hid (sumB ms (k + 1) ≤ 64) := Nat.le_trans (sumB_le ms (by omega)) hs
      obtain ⟨sk, hsk⟩ : ∃ sk, Hid (sk = sumB ms k) := ⟨_, rfl⟩
      rw [← hsk.out] at SS ⊢
      have HX : Hid (x ∈ ms) := List.mem_of_getElem? hx
      have wk : IntKind.i64.wrap ((k : Int) + 1) = ((k + 1 : Nat) : Int) := by rw [IntKind.wrap_i64]; omega
      have ws : IntKind.i64.wrap ((sk : Int) + (x.b : Int)) = ((sk + x.b : Nat) : Int) := by have := SS.out; have := SL.out; rw [IntKind.wrap_i64]; omega
      have gs : ¬ ((64 : Int) < ((sk + x.b : Nat) : Int)) := by have := SS.out; have := SL.out; omega
      clear hx
      go_wp2_with fail
      refine (HC.out _ (Below.al HB.out _) x HX.out).mono ?_
      rintro e w2 ⟨rfl, hb⟩
      have B2 : Hid (Below w.heap.size w w2) := Below.andThen (Below.al HB.out _) hb
      have X2 : Hid (w2.heap[wr.heap.size]? = some (.cells #[.int .u16 x.i, .int .u8 x.s, .int .i64 (x.b : Int)] 48 (0, 0))) := blk11 hb (at11 _ _ _ rfl)
      have d2 : w2.cell? ⟨wr.heap.size, 2, none⟩ = some (.int .i64 (x.b : Int)) := by rw [cell_of_row _ _ 2 _ _ _ X2.out]; rfl
      clear hb c0 c1 c2
      go_wp2_with fail
      exact ⟨⟨k + 1, by omega, by go_num, by rw [SS.out]; go_num, B2.out⟩, by simp [intOf]; omega⟩
    · obtain rfl : k = N := by omega
      go_wp2_with fail
      go_ret
      exact ⟨rfl, HB.out⟩

set_option linter.unusedSimpArgs false in
set_option maxHeartbeats 4000000 in
set_option maxRecDepth 100000 in
theorem size_ok (gm N cap : Nat) (ms : List Mq) (w : World) (hN : ms.length = N) (h64 : N ≤ 64) (hM : MsAt w gm ms) (hs : sumB ms N ≤ 64) :
    Calls Tryd.prog 10 #[.slice (some ⟨gm, 0, none⟩) N cap] w fun e w' => e = .returned (.int .i64 (((sumB ms N + 7) / 8 : Nat) : Int)) ∧ Below w.heap.size w w' := by
  have HM : Hid (MsAt w gm ms) := hM
  have HF : Hid (∀ W, Calls Tryd.prog 25 #[.int .i64 ((sumB ms N : Nat) : Int)] W fun e w' => e = .returned (.int .i64 (((sumB ms N + 7) / 8 : Nat) : Int)) ∧ w' = W) := fun W => bytesFor_any _ W (by omega)
  clear hM
  go_enter Tryd.func10, Tryd.ntmps10
  go_wp2_with fail
  go_loopw [3, 8] (fun cv iv wr => ∃ k : Nat, k ≤ N ∧ iv = .int .i64 (k : Int) ∧ cv = .int .i64 ((sumB ms k : Nat) : Int) ∧ Hid (Below w.heap.size w wr)) (fun _ iv _ => N - (intOf iv).toNat)
  case atStart => exact ⟨0, Nat.zero_le _, rfl, rfl, Below.refl _ _⟩
  case round =>
    obtain ⟨k, hk, rfl, rfl, HB⟩ := hrel
    by_cases hkN : k < N
    · have gk : (k : Int) < (N : Int) := by omega
      have gk0 : (0 : Int) ≤ (k : Int) := by omega
      obtain ⟨x, hx⟩ : ∃ x, ms[k]? = some x := ⟨_, List.getElem?_eq_getElem (by omega)⟩
      obtain ⟨c0, c1, c2⟩ := (HM.out.next HB.out) k x hx
      have SS : Hid (sumB ms (k + 1) = sumB ms k + x.b) := sumB_succ hx
      have SL : Hid (sumB ms (k + 1) ≤ 64) := Nat.le_trans (sumB_le ms (by omega)) hs
      obtain ⟨sk, hsk⟩ : ∃ sk, Hid (sk = sumB ms k) := ⟨_, rfl⟩
      rw [← hsk.out] at SS ⊢
      have wk : IntKind.i64.wrap ((k : Int) + 1) = ((k + 1 : Nat) : Int) := by rw [IntKind.wrap_i64]; omega
      have ws : IntKind.i64.wrap ((sk : Int) + (x.b : Int)) = ((sk + x.b : Nat) : Int) := by have := SS.out; have := SL.out; rw [IntKind.wrap_i64]; omega
      have BA : Hid (∀ o, Below w.heap.size w (wr.alloc o)) := fun o => Below.al HB.out o
      clear hx
      go_wp2_with fail
      exact ⟨⟨k + 1, by omega, by go_num, by rw [SS.out]; go_num, BA.out _⟩, by simp [intOf]; omega⟩
    · obtain rfl : k = N := by omega
      go_wp2_with fail
      refine (HF.out _).mono ?_
      rintro e w2 ⟨rfl, rfl⟩
      go_wp2_with fail
      go_ret
      exact ⟨rfl, HB.out⟩
#print axioms check_ok
#print axioms size_ok
end Go.Proofs.YtcdmldnaagiicaaDoor
