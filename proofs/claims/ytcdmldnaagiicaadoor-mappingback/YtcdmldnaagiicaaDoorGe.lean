/-
  A Map that may be.
-/
import Derived.Test.YtcdmldnaagiicaaDoorDd
import Derived.Test.YtcdmldnaagiicaaDoorGd
namespace Go.Proofs.YtcdmldnaagiicaaDoor
open Go.RowKit

set_option linter.unusedSimpArgs false in
set_option maxHeartbeats 4000000 in
set_option maxRecDepth 100000 in
theorem bytesFor_any (n : Nat) (w : World) (hn : n ≤ 1000000) : Calls Tryd.prog 25 #[.int .i64 (n : Int)] w fun e w' => e = .returned (.int .i64 (((n + 7) / 8 : Nat) : Int)) ∧ w' = w := by
  have e1 : IntKind.i64.wrap ((n : Int) + 7) = (n : Int) + 7 := by rw [IntKind.wrap_i64]; omega
  have e2 : ((n : Int) + 7).tdiv 8 = ((n : Int) + 7) / 8 := Int.tdiv_eq_ediv_of_nonneg (by omega)
  go_enter Tryd.func25, Tryd.ntmps25
  go_wp2_with fail
  go_ret
  refine ⟨?_, rfl⟩
  have : (((n + 7) / 8 : Nat) : Int) = ((n : Int) + 7) / 8 := by omega
  rw [this]
  try rfl
/-- Has a Map of a type so many bits? -/
def hasB (t b : Int) : Bool := decide (0 < Ty.Pl.sizeN t) && (b == 8 * Ty.Pl.sizeN t || (t == 1 && b == 1))

set_option linter.unusedSimpArgs false in
set_option maxHeartbeats 4000000 in
set_option maxRecDepth 100000 in
theorem hasBits_any (t b : Int) (w : World) : Calls Tryd.prog 47 #[.int .u8 t, .int .i64 b] w fun e w' => e = .returned (.bool (hasB t b)) ∧ w' = w := by
  obtain ⟨z, hz⟩ : ∃ z, Hid (z = Ty.Pl.sizeN t) := ⟨_, rfl⟩
  have HSZ : Hid (∀ W, Calls Tryd.prog 46 #[.int .u8 t] W fun e w' => e = .returned (.tuple #[.int .i64 z, .bool (decide (0 < z))]) ∧ w' = W) := fun W => by rw [hz.out]; exact Ty.size_any t W
  have HR : Hid (hasB t b = (decide (0 < z) && (b == 8 * z || (t == 1 && b == 1)))) := by show _ = _; unfold hasB; rw [hz.out]
  have hzb : 0 ≤ z ∧ z ≤ 8 := by rw [hz.out]; unfold Ty.Pl.sizeN; repeat' split
                                 all_goals omega
  go_enter Tryd.func47, Tryd.ntmps47
  go_wp2_with fail
  refine (HSZ.out _).mono ?_
  rintro e w1 ⟨rfl, rfl⟩
  clear HSZ
  by_cases h0 : 0 < z
  · have e8 : IntKind.i64.wrap (8 * z) = 8 * z := by rw [IntKind.wrap_i64]; omega
    by_cases h1 : b = 8 * z
    · subst h1
      go_wp2_with fail
      go_ret
      exact ⟨by rw [HR.out]; simp [h0], rfl⟩
    · by_cases h2 : t = 1
      · subst h2
        by_cases h3 : b = 1
        · subst h3
          go_wp2_with fail
          go_ret
          exact ⟨by rw [HR.out]; simp [h0], rfl⟩
        · go_wp2_with fail
          go_ret
          exact ⟨by rw [HR.out]; simp [h0, h1, h3], rfl⟩
      · go_wp2_with fail
        go_ret
        exact ⟨by rw [HR.out]; simp [h0, h1, h2], rfl⟩
  · go_wp2_with fail
    go_ret
    exact ⟨by rw [HR.out, show decide (0 < z) = false from by simpa using h0]; rfl, rfl⟩
#print axioms hasBits_any
/-- A Map as a value. -/
abbrev mpV (i s b : Int) : Value := .agg #[.int .u16 i, .int .u8 s, .int .i64 b]

set_option linter.unusedSimpArgs false in
set_option maxHeartbeats 4000000 in
set_option maxRecDepth 100000 in
theorem isGap_no (i s b : Int) (w : World) (h1 : 256 ≤ i) (h2 : i < 65536) : Calls Tryd.prog 35 #[mpV i s b] w fun e w' => e = .returned (.bool false) ∧ Below w.heap.size w w' := by
  have e1 : IntKind.u8.wrap i = i % 256 := by simp [IntKind.wrap, IntKind.bits, IntKind.signed]
  have e3 : (i == i % 256) = false := by simp; omega
  have e2 : ∀ W, (binOp .eql 33 (plV i s) (plV (i % 256) 0)).run Tryd.prog W = .ok (.bool false) W := fun W => by
    have := eqlP W i s (i % 256) 0
    rw [e3] at this
    exact this
  go_enter Tryd.func35, Tryd.ntmps35
  go_wp2_with fail
  go_ret
  exact ⟨rfl, (by repeat (first | exact Below.refl _ _ | apply Below.drew | apply Below.al))⟩
#print axioms isGap_no

set_option linter.unusedSimpArgs false in
set_option maxHeartbeats 4000000 in
set_option maxRecDepth 100000 in
theorem fits_ok (i s b : Int) (j r : Int) (nm : ByteArray) (t rt : Int) (d : Option Addr) (ld cd : Nat) (l : Option Addr) (ll cl : Nat) (h : Option Addr) (lh ch : Nat) (tg gr : Int) (w : World) (h4 : (bits .and .u8 rt 4 != 0) = true) (hb : hasB t b = true) :
    Calls Tryd.prog 37 #[mpV i s b, .agg (enC j r nm t rt d ld cd l ll cl h lh ch tg gr)] w fun e w' => e = .returned (.bool true) ∧ Below w.heap.size w w' := by
  have HH : Hid (∀ W, Calls Tryd.prog 47 #[.int .u8 t, .int .i64 b] W fun e w' => e = .returned (.bool true) ∧ w' = W) := fun W => by have := hasBits_any t b W; rw [hb] at this; exact this
  clear hb
  go_enter Tryd.func37, Tryd.ntmps37
  go_wp2_with fail
  refine (HH.out _).mono ?_
  rintro e w1 ⟨rfl, rfl⟩
  go_wp2_with fail
  go_ret
  exact ⟨rfl, (by repeat (first | exact Below.refl _ _ | apply Below.drew | apply Below.al))⟩
/-- The right that is asked. -/
def rgt (out : Bool) : Int := if out then 1 else 2

set_option linter.unusedSimpArgs false in
set_option maxHeartbeats 4000000 in
set_option maxRecDepth 100000 in
theorem mcheck_ok (out : Bool) (p m : Nat) (cg : Int) (lst : Mp) (i s b : Int) (nm : ByteArray) (t rt : Int) (d : Option Addr) (ld cd : Nat) (l : Option Addr) (ll cl : Nat) (h : Option Addr) (lh ch : Nat) (tg gr : Int) (v : Option Addr) (lv cv : Nat) (zd zl zh : List Int) (w : World) (hp : w.heap[p]? = some (.cells #[.map (some m), .int .i64 cg] 58 (0, 0))) (hm : IsM w m lst) (hl : lookP lst i s = some (.agg (itC i s nm t rt d ld cd l ll cl h lh ch tg gr v lv cv))) (rd : SlOk w d ld cd zd) (rl : SlOk w l ll cl zl) (rh : SlOk w h lh ch zh) (g1 : ld ≤ 16777216) (g2 : ll ≤ 16777216) (g3 : lh ≤ 16777216) (hi1 : 256 ≤ i) (hi2 : i < 65536)
    (h4 : (bits .and .u8 rt 4 != 0) = true) (hb : hasB t b = true) (hr : (bits .and .u8 rt (rgt out) == 0) = false) :
    Calls Tryd.prog 21 #[mpV i s b, .pointer (some ⟨p, 0, none⟩), .bool out] w fun e w' => e = .returned (.int .u32 0) ∧ Below w.heap.size w w' := by
  have HG : Hid (∀ W, Calls Tryd.prog 35 #[mpV i s b] W fun e w' => e = .returned (.bool false) ∧ Below W.heap.size W w') := fun W => isGap_no i s b W hi1 hi2
  have HF : Hid (∀ W, Below w.heap.size w W → Calls Tryd.prog 36 #[.pointer (some ⟨p, 0, none⟩), plV i s] W fun e w' => (∃ a1 c1 a2 c2 a3 c3, e = .returned (.tuple #[.agg (enC i s nm t rt a1 ld c1 a2 ll c2 a3 lh c3 tg gr), .int .u32 0])) ∧ Below W.heap.size W w') := fun W hb => findE_at p m cg lst i s nm t rt d ld cd l ll cl h lh ch tg gr v lv cv zd zl zh W (blk11 hb hp) (hm.next hb) hl (rd.next hb) (rl.next hb) (rh.next hb) g1 g2 g3
  have HT : Hid (∀ a1 c1 a2 c2 a3 c3 W, Calls Tryd.prog 37 #[mpV i s b, .agg (enC i s nm t rt a1 ld c1 a2 ll c2 a3 lh c3 tg gr)] W fun e w' => e = .returned (.bool true) ∧ Below W.heap.size W w') := fun a1 c1 a2 c2 a3 c3 W => fits_ok i s b i s nm t rt a1 ld c1 a2 ll c2 a3 lh c3 tg gr W h4 hb
  have HR : Hid ((bits .and .u8 rt (rgt out) == 0) = false) := hr
  clear hp hm hl rd rl rh g1 g2 g3 h4 hb hr
  go_enter Tryd.func21, Tryd.ntmps21
  go_wp2_with fail
  refine (HG.out _).mono ?_
  rintro e w1 ⟨rfl, hb1⟩
  have B1 : Hid (Below w.heap.size w w1) := Below.andThen (by repeat (first | exact Below.refl _ _ | apply Below.drew | apply Below.al)) hb1
  have X1 : Hid (w1.heap[w.heap.size]? = some (.cells #[.int .u16 i, .int .u8 s, .int .i64 b] 48 (0, 0))) := blk11 hb1 (at11 _ _ _ rfl)
  have c0 : w1.cell? ⟨w.heap.size, 0, none⟩ = some (.int .u16 i) := by rw [cell_of_row _ _ 0 _ _ _ X1.out]; rfl
  have c1 : w1.cell? ⟨w.heap.size, 1, none⟩ = some (.int .u8 s) := by rw [cell_of_row _ _ 1 _ _ _ X1.out]; rfl
  clear hb1
  go_wp2_with fail
  refine (HF.out _ B1.out).mono ?_
  rintro e w2 ⟨⟨a1, k1, a2, k2, a3, k3, rfl⟩, hb2⟩
  have B2 : Hid (Below w.heap.size w w2) := Below.andThen B1.out hb2
  have X2 : Hid (w2.heap[w.heap.size]? = some (.cells #[.int .u16 i, .int .u8 s, .int .i64 b] 48 (0, 0))) := blk11 hb2 X1.out
  have lw := lt_of_heap X2.out
  have d0 : w2.cell? ⟨w.heap.size, 0, none⟩ = some (.int .u16 i) := by rw [cell_of_row _ _ 0 _ _ _ X2.out]; rfl
  have d1 : w2.cell? ⟨w.heap.size, 1, none⟩ = some (.int .u8 s) := by rw [cell_of_row _ _ 1 _ _ _ X2.out]; rfl
  have d2 : w2.cell? ⟨w.heap.size, 2, none⟩ = some (.int .i64 b) := by rw [cell_of_row _ _ 2 _ _ _ X2.out]; rfl
  clear hb2 c0 c1
  cases out with
  | false =>
    have hr1 : (bits .and .u8 rt 2 == 0) = false := HR.out
    have hr2 : ¬ (bits .and .u8 rt 2 = 0) := by simpa using hr1
    clear HR
    go_wp2_with (refine wpList_load_by rfl 53 _ rfl ⟨w2.heap.size, 0, none⟩ _ rfl (load_part 53 10 sizeE aggE _ w2.heap.size 0 (enC i s nm t rt a1 ld k1 a2 ll k2 a3 lh k3 tg gr).toList _ (at11 _ _ _ rfl) (by simp)) ?_)
    refine (HT.out _ _ _ _ _ _ _).mono ?_
    rintro e w3 ⟨rfl, hb3⟩
    have B3 : Hid (Below w.heap.size w w3) := Below.andThen (Below.al B2.out _) hb3
    have X3 : Hid (w3.heap[w2.heap.size]? = some (.cells (enC i s nm t rt a1 ld k1 a2 ll k2 a3 lh k3 tg gr) 53 (0, 0))) := blk11 hb3 (at11 _ _ _ rfl)
    have c4 : w3.cell? ⟨w2.heap.size, 4, none⟩ = some (.int .u8 rt) := by rw [cell_of_row _ _ 4 _ _ _ X3.out]; rfl
    clear hb3
    go_wp2_with fail
    go_ret
    exact ⟨rfl, B3.out⟩
  | true =>
    have hr1 : (bits .and .u8 rt 1 == 0) = false := HR.out
    have hr2 : ¬ (bits .and .u8 rt 1 = 0) := by simpa using hr1
    clear HR
    go_wp2_with (refine wpList_load_by rfl 53 _ rfl ⟨w2.heap.size, 0, none⟩ _ rfl (load_part 53 10 sizeE aggE _ w2.heap.size 0 (enC i s nm t rt a1 ld k1 a2 ll k2 a3 lh k3 tg gr).toList _ (at11 _ _ _ rfl) (by simp)) ?_)
    refine (HT.out _ _ _ _ _ _ _).mono ?_
    rintro e w3 ⟨rfl, hb3⟩
    have B3 : Hid (Below w.heap.size w w3) := Below.andThen (Below.al B2.out _) hb3
    have X3 : Hid (w3.heap[w2.heap.size]? = some (.cells (enC i s nm t rt a1 ld k1 a2 ll k2 a3 lh k3 tg gr) 53 (0, 0))) := blk11 hb3 (at11 _ _ _ rfl)
    have c4 : w3.cell? ⟨w2.heap.size, 4, none⟩ = some (.int .u8 rt) := by rw [cell_of_row _ _ 4 _ _ _ X3.out]; rfl
    clear hb3
    go_wp2_with fail
    go_ret
    exact ⟨rfl, B3.out⟩
#print axioms mcheck_ok
end Go.Proofs.YtcdmldnaagiicaaDoor
