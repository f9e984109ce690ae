/-
  The example of layer 12 works.
-/
import Derived.Test.YtcdmldnaagiicaaDoorGk
namespace Go.Proofs.YtcdmldnaagiicaaDoor
open Go.RowKit

theorem t12_1 : tkB [5, 2, 0, 0] (sumB ms12 0) 8 = [5] := by decide +kernel
theorem t12_2 : tkB [5, 2, 0, 0] (sumB ms12 1) 1 = [0] := by decide +kernel
theorem t12_3 : tkB [5, 2, 0, 0] (sumB ms12 2) 16 = [1, 0] := by decide +kernel
theorem p12 : pk ms12 (val12 [3] [1] [254, 255]) 4 3 = [3, 253, 255, 1] := by decide +kernel
theorem s12 : sumB ms12 3 = 25 := by decide +kernel
theorem es12 : strOfNums [3, 253, 255, 1] = ⟨#[3, 253, 255, 1]⟩ := by kernel_rfl
theorem et12 : strOfNums [1, 0] = ⟨#[1, 0]⟩ := by kernel_rfl
theorem o12_1 : Oct [5] := fun n hn => by simp at hn; omega
theorem o12_2 : Oct [0] := fun n hn => by simp at hn; omega
theorem o12_3 : Oct [1, 0] := fun n hn => by simp at hn; omega
theorem o12_4 : Oct [5, 2, 0, 0] := fun n hn => by simp at hn; omega
theorem o12_5 : Oct [3, 253, 255, 1] := fun n hn => by simp at hn; omega
/-- What stands behind so many writes. -/
def AT12 (w : World) (p m k : Nat) : Prop := (k = 0 ∧ T12 w p m 0 [3] [1] [254, 255]) ∨ (k = 1 ∧ T12 w p m 1 [5] [1] [254, 255]) ∨ (k = 2 ∧ T12 w p m 2 [5] [0] [254, 255]) ∨ (k = 3 ∧ T12 w p m 3 [5] [0] [1, 0])

set_option linter.unusedSimpArgs false in
set_option maxHeartbeats 4000000 in
set_option maxRecDepth 100000 in
theorem write12g (zs : List Int) (len : Nat) (hl4 : 4 ≤ len) (hl5 : len ≤ 1000) (t12_1 : tkB zs (sumB ms12 0) 8 = [5]) (t12_2 : tkB zs (sumB ms12 1) 1 = [0]) (t12_3 : tkB zs (sumB ms12 2) 16 = [1, 0]) (w : World) (p m gm : Nat) (a : Option Addr) (cap : Nat) (h : T12 w p m 0 [3] [1] [254, 255]) (hM : MsAt w gm ms12) (hr : Row w a len zs) :
    Calls Tryd.prog 11 #[.pointer (some ⟨p, 0, none⟩), .slice (some ⟨gm, 0, none⟩) 3 3, .slice a len cap] w fun e w' => e = .returned (.int .u32 0) ∧ T12 w' p m 3 [5] [0] [1, 0] ∧ Kp [p, m] w w' := by
  have HU : Hid (Calls Tryd.prog 26 #[.pointer (some ⟨p, 0, none⟩), .slice (some ⟨gm, 0, none⟩) 3 3, .slice a len cap] w fun e w' => ∃ v us, e = .returned (.tuple #[v, .int .u32 0]) ∧ IsV w' w.heap.size v us ∧ us.length = 3 ∧ (∀ j x, j < 3 → ms12[j]? = some x → ∃ g, us[j]? = some ⟨x.i, x.s, g, (x.b + 7) / 8⟩ ∧ w.heap.size ≤ g ∧ w'.heap[g]? = some (.cells ((tkB zs (sumB ms12 j) x.b).map (Value.int .u8)).toArray 5 (0, 0))) ∧ Below w.heap.size w w') := by
    obtain ⟨q1, q2, q3, h8⟩ := h
    refine unpack_ok p m 0 _ gm 3 3 ms12 a len cap zs w h8.h h8.mm rfl (by decide) hM (mp12 h8 false) (by rw [s12]; decide) hr (by rw [s12]; omega) hl5 ?_
    intro W hb k x g hx hg
    have hW : T12 W p m 0 [3] [1] [254, 255] := T12.next ⟨q1, q2, q3, h8⟩ hb
    rcases k with _ | _ | _ | k
    case succ.succ.succ => simp [ms12] at hx
    · simp only [ms12, List.getElem?_cons_zero, Option.some.injEq] at hx
      subst hx
      dsimp only at hg
      rw [t12_1] at hg
      exact (hW.may1 _ (row_block hg o12_1 (by decide))).mono fun e w' hh => ⟨0, hh.1, hh.2⟩
    · simp only [ms12, List.getElem?_cons_zero, List.getElem?_cons_succ, Option.some.injEq] at hx
      subst hx
      dsimp only at hg
      rw [t12_2] at hg
      exact (hW.may2 _ (row_block hg o12_2 (by decide))).mono fun e w' hh => ⟨0, hh.1, hh.2⟩
    · simp only [ms12, List.getElem?_cons_zero, List.getElem?_cons_succ, Option.some.injEq] at hx
      subst hx
      dsimp only at hg
      rw [t12_3] at hg
      exact (hW.may3 _ (row_block hg o12_3 (by decide))).mono fun e w' hh => ⟨0, hh.1, hh.2⟩
  have HT : Hid (T12 w p m 0 [3] [1] [254, 255]) := h
  have HT1 : Hid (tkB zs (sumB ms12 0) 8 = [5]) := t12_1
  have HT2 : Hid (tkB zs (sumB ms12 1) 1 = [0]) := t12_2
  have HT3 : Hid (tkB zs (sumB ms12 2) 16 = [1, 0]) := t12_3
  clear h hM hr t12_1 t12_2 t12_3
  go_enter Tryd.func11, Tryd.ntmps11
  go_wp2_with fail
  refine HU.out.mono ?_
  rintro e w1 ⟨v, us, rfl, hv, hu, hj, hb⟩
  have D1 := HT.out
  have sv : ∃ gv capv, v = .slice (some ⟨gv, 0, none⟩) 3 capv := by
    rcases hv.form with ⟨_, h2⟩ | ⟨g, cp, _, hv2, _⟩
    · rw [h2] at hu; simp at hu
    · rw [hu] at hv2; exact ⟨g, cp, hv2⟩
  obtain ⟨gv, capv, rfl⟩ := sv
  have VV : Hid (IsV w1 w.heap.size (.slice (some ⟨gv, 0, none⟩) 3 capv) us) := hv
  have UL : Hid (us.length = 3) := hu
  have JJ : Hid (∀ j x, j < 3 → ms12[j]? = some x → ∃ g, us[j]? = some ⟨x.i, x.s, g, (x.b + 7) / 8⟩ ∧ w.heap.size ≤ g ∧ w1.heap[g]? = some (.cells ((tkB zs (sumB ms12 j) x.b).map (Value.int .u8)).toArray 5 (0, 0))) := hj
  have T1 : Hid (T12 w1 p m 0 [3] [1] [254, 255]) := HT.out.next hb
  have B1 : Hid (Below w.heap.size w w1) := hb
  have DL : Hid (p < w.heap.size ∧ m < w.heap.size) := D1.lt
  clear hv hu hj hb HU D1
  go_wp2_with fail
  go_loopw [23] (fun iv wr => ∃ k : Nat, k ≤ 3 ∧ iv = .int .i64 (k : Int) ∧ Hid (AT12 wr p m k ∧ Kp [p, m] w1 wr)) (fun iv _ => 3 - (intOf iv).toNat)
  case atStart => exact ⟨0, by decide, rfl, .inl ⟨rfl, T1.out⟩, Kp.refl _ _⟩
  case round =>
    obtain ⟨k, hk, rfl, HR⟩ := hrel
    have HK : Hid (Kp [p, m] w1 wr) := HR.out.2
    rcases HR.out.1 with ⟨rfl, D0⟩ | ⟨rfl, D0⟩ | ⟨rfl, D0⟩ | ⟨rfl, D0⟩
    · obtain ⟨gx, hx1, hx2, hx3⟩ := JJ.out 0 ⟨24576, 1, 8⟩ (by decide) rfl
      dsimp only at hx1 hx3
      rw [HT1.out] at hx3
      have GX : Hid (wr.heap[gx]? = some (.cells (([5] : List Int).map (Value.int .u8)).toArray 5 (0, 0))) := HK.out.at (by have := DL.out; simp; omega) hx3
      have LD := (show IsV wr w.heap.size (.slice (some ⟨gv, 0, none⟩) us.length capv) us from by rw [UL.out]; exact VV.out.same fun kk hkk => HK.out.block kk (VV.out.lt kk hkk).2 (by have := (VV.out.lt kk hkk).1; have := DL.out; simp; omega)).load 0 _ hx1
      have HD : Hid (T12 wr p m 0 [3] [1] [254, 255]) := D0
      clear HR D0 hx1 hx2 hx3
      try dsimp only at LD
      go_wp2_with (refine wpList_load_by rfl 36 (.tmp 25) rfl _ _ rfl LD ?_)
      refine ((HD.out.next (by repeat (first | exact Below.refl _ _ | apply Below.drew | apply Below.al))).put1 (by decide) (by decide) _ (row_block (ext11 GX.out) o12_1 (by decide))).mono ?_
      rintro e w2 ⟨rfl, hd, hk2⟩
      have F : Hid (AT12 w2 p m 1 ∧ Kp [p, m] w1 w2) := ⟨.inr (.inl ⟨rfl, hd⟩), (HK.out.al _).trans hk2⟩
      clear hd hk2 LD
      go_wp2_with fail
      exact ⟨⟨1, by decide, rfl, F.out⟩, by simp [intOf]⟩
    · obtain ⟨gx, hx1, hx2, hx3⟩ := JJ.out 1 ⟨24576, 2, 1⟩ (by decide) rfl
      dsimp only at hx1 hx3
      rw [HT2.out] at hx3
      have GX : Hid (wr.heap[gx]? = some (.cells (([0] : List Int).map (Value.int .u8)).toArray 5 (0, 0))) := HK.out.at (by have := DL.out; simp; omega) hx3
      have LD := (show IsV wr w.heap.size (.slice (some ⟨gv, 0, none⟩) us.length capv) us from by rw [UL.out]; exact VV.out.same fun kk hkk => HK.out.block kk (VV.out.lt kk hkk).2 (by have := (VV.out.lt kk hkk).1; have := DL.out; simp; omega)).load 1 _ hx1
      have HD : Hid (T12 wr p m 1 [5] [1] [254, 255]) := D0
      clear HR D0 hx1 hx2 hx3
      try dsimp only at LD
      go_wp2_with (refine wpList_load_by rfl 36 (.tmp 25) rfl _ _ rfl LD ?_)
      refine ((HD.out.next (by repeat (first | exact Below.refl _ _ | apply Below.drew | apply Below.al))).put2 (by decide) (by decide) _ (row_block (ext11 GX.out) o12_2 (by decide))).mono ?_
      rintro e w2 ⟨rfl, hd, hk2⟩
      have F : Hid (AT12 w2 p m 2 ∧ Kp [p, m] w1 w2) := ⟨.inr (.inr (.inl ⟨rfl, hd⟩)), (HK.out.al _).trans hk2⟩
      clear hd hk2 LD
      go_wp2_with fail
      exact ⟨⟨2, by decide, rfl, F.out⟩, by simp [intOf]⟩
    · obtain ⟨gx, hx1, hx2, hx3⟩ := JJ.out 2 ⟨24576, 3, 16⟩ (by decide) rfl
      dsimp only at hx1 hx3
      rw [HT3.out] at hx3
      have GX : Hid (wr.heap[gx]? = some (.cells (([1, 0] : List Int).map (Value.int .u8)).toArray 5 (0, 0))) := HK.out.at (by have := DL.out; simp; omega) hx3
      have LD := (show IsV wr w.heap.size (.slice (some ⟨gv, 0, none⟩) us.length capv) us from by rw [UL.out]; exact VV.out.same fun kk hkk => HK.out.block kk (VV.out.lt kk hkk).2 (by have := (VV.out.lt kk hkk).1; have := DL.out; simp; omega)).load 2 _ hx1
      have HD : Hid (T12 wr p m 2 [5] [0] [254, 255]) := D0
      clear HR D0 hx1 hx2 hx3
      try dsimp only at LD
      go_wp2_with (refine wpList_load_by rfl 36 (.tmp 25) rfl _ _ rfl LD ?_)
      refine ((HD.out.next (by repeat (first | exact Below.refl _ _ | apply Below.drew | apply Below.al))).put3 (by decide) (by decide) _ (row_block (ext11 GX.out) o12_3 (by decide))).mono ?_
      rintro e w2 ⟨rfl, hd, hk2⟩
      have F : Hid (AT12 w2 p m 3 ∧ Kp [p, m] w1 w2) := ⟨.inr (.inr (.inr ⟨rfl, hd⟩)), (HK.out.al _).trans hk2⟩
      clear hd hk2 LD
      go_wp2_with fail
      exact ⟨⟨3, by decide, rfl, F.out⟩, by simp [intOf]⟩
    · have R : Hid (T12 wr p m 3 [5] [0] [1, 0] ∧ Kp [p, m] w wr) := ⟨D0, (Kp.of B1.out).trans HK.out⟩
      clear HR D0
      go_wp2_with fail
      go_ret
      exact ⟨rfl, R.out⟩
theorem write12 (w : World) (p m gm : Nat) (a : Option Addr) (cap : Nat) (h : T12 w p m 0 [3] [1] [254, 255]) (hM : MsAt w gm ms12) (hr : Row w a 4 [5, 2, 0, 0]) :
    Calls Tryd.prog 11 #[.pointer (some ⟨p, 0, none⟩), .slice (some ⟨gm, 0, none⟩) 3 3, .slice a 4 cap] w fun e w' => e = .returned (.int .u32 0) ∧ T12 w' p m 3 [5] [0] [1, 0] ∧ Kp [p, m] w w' :=
  write12g [5, 2, 0, 0] 4 (by decide) (by decide) t12_1 t12_2 t12_3 w p m gm a cap h hM hr
#print axioms write12

set_option linter.unusedSimpArgs false in
set_option maxHeartbeats 4000000 in
set_option maxRecDepth 100000 in
theorem works12 (w : World) (hT : Ty.Tab64 w) : Calls Tryd.prog 5 #[] w fun e w' => e = .returned (.bool true) ∧ Below w.heap.size w w' := by
  have HT : Hid (Ty.Tab64 w) := hT
  clear hT
  go_enter Tryd.func5, Tryd.ntmps5
  go_wp2_with fail
  refine (three12_any w).mono ?_
  rintro e w1 ⟨ge, gm, a1, c1, a2, c2, a3, c3, rfl, s1, s2, s3, ha, hm, hb⟩
  have B1 : Hid (Below w.heap.size w w1) := hb
  have M1 : Hid (MsAt w1 gm ms12) := hm
  have NW := exNew12 w1 ge a1 c1 a2 c2 a3 c3 s1 s2 s3 ha (tab_next HT.out hb)
  clear s1 s2 s3 ha hm hb HT
  go_wp2_with fail
  refine NW.mono ?_
  rintro e w2 ⟨p, m, rfl, hb, hp, hmm, ht⟩
  have B2 : Hid (Below w.heap.size w w2) := Below.andThen B1.out hb
  have M2 : Hid (MsAt w2 gm ms12) := M1.out.next hb
  have T2 : Hid (T12 w2 p m 0 [3] [1] [254, 255]) := ht
  have P2 : Hid (w.heap.size ≤ p ∧ w.heap.size ≤ m) := ⟨by have := B1.out.size; omega, by have := B1.out.size; omega⟩
  have GM : Hid (gm ≠ p ∧ gm ≠ m) := by
    obtain ⟨q0, _, _⟩ := M1.out 0 _ rfl
    have := block_lt_of_cell q0
    dsimp only at this
    exact ⟨by omega, by omega⟩
  have PK : Calls Tryd.prog 9 #[.pointer (some ⟨p, 0, none⟩), .slice (some ⟨gm, 0, none⟩) 3 3] w2 fun e w' => ∃ g, e = .returned (.tuple #[.slice (some ⟨g, 0, none⟩) 4 4, .int .u32 0]) ∧ w2.heap.size ≤ g ∧ w'.heap[g]? = some (.cells (([3, 253, 255, 1] : List Int).map (Value.int .u8)).toArray 5 (0, 0)) ∧ Below w2.heap.size w2 w' := by
    obtain ⟨q1, q2, q3, h8⟩ := ht
    have := pack_ok p m 0 _ gm 3 3 ms12 (val12 [3] [1] [254, 255]) w2 h8.h h8.mm rfl (by decide) M2.out (mp12 h8 true) (va12 h8) (by rw [s12]; decide)
    rw [s12, show (25 + 7) / 8 = 4 from rfl, p12] at this
    exact this
  clear hb hp hmm ht NW M1
  go_wp2_with fail
  refine PK.mono ?_
  rintro e w3 ⟨g, rfl, hg, hg3, hb⟩
  have B3 : Hid (Below w.heap.size w w3) := Below.andThen B2.out hb
  have M3 : Hid (MsAt w3 gm ms12) := M2.out.next hb
  have T3 : Hid (T12 w3 p m 0 [3] [1] [254, 255]) := T2.out.next hb
  have st : (convert 34 9 (.slice (some ⟨g, 0, none⟩) 4 4)).run Tryd.prog w3 = .ok (.string ⟨#[3, 253, 255, 1]⟩) w3 := by
    have := (row_block hg3 o12_5 (by decide)).row.str 4
    rw [es12] at this
    exact this
  clear hb hg hg3 PK M2 T2
  go_wp2_with fail
  refine (write12 _ p m gm _ 4 (T3.out.next (by repeat (first | exact Below.refl _ _ | apply Below.drew | apply Below.al))) (M3.out.next (by repeat (first | exact Below.refl _ _ | apply Below.drew | apply Below.al))) (row_lit w3 _ _ [5, 2, 0, 0] 4 rfl o12_4 rfl)).mono ?_
  rintro e w4 ⟨rfl, t4, k4⟩
  have P3 := P2.out
  have B4 : Hid (Below w.heap.size w w4) := Kp.below (Below.al B3.out _) k4 (by have := B3.out.size; simp; omega) (by simp; omega)
  have T4 : Hid (T12 w4 p m 3 [5] [0] [1, 0]) := t4
  clear t4 k4 P3 st
  go_wp2_with fail
  refine T4.out.get3.mono ?_
  rintro e w5 ⟨⟨a, c, rfl, h5⟩, hb⟩
  have B5 : Hid (Below w.heap.size w w5) := Below.andThen B4.out hb
  have su : (convert 34 9 (.slice a 2 c)).run Tryd.prog w5 = .ok (.string ⟨#[1, 0]⟩) w5 := by
    have := h5.row.str c
    rw [et12] at this
    exact this
  clear hb h5
  go_wp2_with fail
  go_ret
  exact ⟨rfl, B5.out⟩
#print axioms works12
end Go.Proofs.YtcdmldnaagiicaaDoor
