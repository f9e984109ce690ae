/-
  The walk of the document's Data.
-/
import Derived.Test.YtbjbnfhmehkkpaaMk2
namespace Go.Proofs.Ytbjbnfhmehkkpaa
open Go.RowKit

theorem own_row {w : World} {B : Nat} {v : Value} {k : Nat} {xs : List Value} {zs : List Int} (h : w.ownsRow B 5 1 v k xs) (hz : xs = zs.map (Value.int .u8)) (ho : Oct zs) (hl : zs.length = k) :
    ∃ a cap, v = .slice a k cap ∧ k ≤ cap ∧ cap ≤ maxLen ∧ Row w a k zs := by
  rcases h.2 with ⟨rfl, rfl⟩ | ⟨g, cap, cur, rfl, hg, hc, hn, hm, hs, ht⟩
  · have : zs = [] := List.eq_nil_of_length_eq_zero hl
    subst this
    exact ⟨none, 0, rfl, Nat.le_refl _, by decide, row_nil w⟩
  · refine ⟨_, cap, rfl, hn, hm, ⟨hl, ho, fun _ => ⟨g, 0, rfl, fun i hi => ?_⟩⟩⟩
    have := h.cellAt i (by omega)
    rw [Nat.zero_add, this, hz]
    simp [List.getD_eq_getElem?_getD, hl, hi]

theorem take_zb (ds : List Int) (k : Nat) (h : k < ds.length) : ds.take (k + 1) = ds.take k ++ [zb ds k] := by
  rw [List.take_succ_eq_append_getElem h]
  simp [zb, List.getD_eq_getElem?_getD, h]

set_option maxHeartbeats 4000000 in
set_option maxRecDepth 100000 in
theorem refData_any (id n d0 d1 d2 d3 d4 d5 d6 d7 : Int) (r : Bool) (w : World) (ho : Oct [d0, d1, d2, d3, d4, d5, d6, d7]) :
    Calls Try.prog 17 #[frV id n d0 d1 d2 d3 d4 d5 d6 d7 r] w fun e w' => ∃ a len cap, e = .returned (.slice a len cap) ∧ len ≤ 8 ∧ Row w' a len (datL id n [d0, d1, d2, d3, d4, d5, d6, d7] r) ∧ Below w.heap.size w w' := by
  have hR := fun w => refRight_any id n d0 d1 d2 d3 d4 d5 d6 d7 r w
  cases hq : rightB id n [d0, d1, d2, d3, d4, d5, d6, d7] r with
  | false =>
    have e : datL id n [d0, d1, d2, d3, d4, d5, d6, d7] r = [] := by simp [datL, hq]
    rw [e]
    rw [hq] at hR
    clear hq
    go_enter Try.func17, Try.ntmps17
    go_wp2_with fail
    refine (hR _).mono ?_
    rintro e w1 ⟨rfl, hb1⟩
    go_wp2_with fail
    go_ret
    exact ⟨none, 0, 0, rfl, by decide, row_nil _, Below.andThen (Below.al (Below.refl _ _) _) hb1⟩
  | true =>
    cases r with
    | true =>
      have e : datL id n [d0, d1, d2, d3, d4, d5, d6, d7] true = [] := by simp [datL, carL]
      rw [e]
      rw [hq] at hR
      clear hq
      go_enter Try.func17, Try.ntmps17
      go_wp2_with fail
      refine (hR _).mono ?_
      rintro e w1 ⟨rfl, hb1⟩
      obtain ⟨B1, c0, c1, c2, c3, c4, c5, c6, c7, c8, c9, c10⟩ := hold_next (boxed w id n d0 d1 d2 d3 d4 d5 d6 d7 true) hb1
      clear hb1
      go_wp2_with fail
      go_ret
      exact ⟨none, 0, 0, rfl, by decide, row_nil _, B1⟩
    | false =>
      obtain ⟨_, h0, h8⟩ := rightB_n _ _ _ _ hq
      obtain ⟨m, rfl⟩ := Int.eq_ofNat_of_zero_le h0
      have e : datL id m [d0, d1, d2, d3, d4, d5, d6, d7] false = List.take m [d0, d1, d2, d3, d4, d5, d6, d7] := by simp [datL, hq, carL]
      rw [e]
      rw [hq] at hR
      clear hq e
      have hbox := fun i hi => box_byte w id m d0 d1 d2 d3 d4 d5 d6 d7 false i hi
      obtain ⟨ds, HD⟩ : ∃ ds, Hid ([d0, d1, d2, d3, d4, d5, d6, d7] = ds) := ⟨_, rfl⟩
      have hl8 : Hid (ds.length = 8) := by show _ = _; rw [← HD.out]; rfl
      rw [HD.out] at hbox ho ⊢
      clear HD
      obtain ⟨i0, hi, hz0, hz1, hz2⟩ := info_parts info8
      go_enter Try.func17, Try.ntmps17
      go_wp2_with fail
      refine (hR _).mono ?_
      rintro e w1 ⟨rfl, hb1⟩
      have HB : Hid (∀ i, i < 8 → w1.cell? ⟨w.heap.size, 2 + i, none⟩ = some (.int .u8 (zb ds i))) := fun i hi => (hb1.cell (p := ⟨w.heap.size, 2 + i, none⟩) (by simp)).trans (hbox i hi)
      obtain ⟨B1, c0, c1, c2, c3, c4, c5, c6, c7, c8, c9, c10⟩ := hold_next (boxed w id m d0 d1 d2 d3 d4 d5 d6 d7 false) hb1
      have HB1 : w.heap.size < w1.heap.size := block_lt_of_cell c0
      clear hb1 hbox hR
      go_wp2_with fail
      clear c0 c2 c3 c4 c5 c6 c7 c8 c9 c10
      go_loopw [3, 4] (fun v i wr => ∃ k : Nat, k ≤ m ∧ i = .int .i64 (k : Int) ∧ Below w1.heap.size w1 wr ∧ wr.ownsRow w1.heap.size 5 1 v k ((ds.take k).map (Value.int .u8)))
        (fun _ i _ => m - (intOf i).toNat)
      case atStart => exact ⟨0, Nat.zero_le _, rfl, Below.refl _ _, World.ownsRow_nil _ _ _ _⟩
      case round =>
        obtain ⟨k, hk, rfl, hb, hown⟩ := hrel
        have c1' := (hb.cell (p := ⟨w.heap.size, 1, none⟩) HB1).trans c1
        by_cases hlt : k < m
        · have hlt' : (k : Int) < (m : Int) := by omega
          have hk8 : (k : Int) < 8 := by omega
          have hck := (hb.cell (p := ⟨w.heap.size, 2 + k, none⟩) HB1).trans (HB.out k (by omega))
          have BS : Hid (ds.take (k + 1) = ds.take k ++ [zb ds k]) := take_zb ds k (by rw [hl8.out]; omega)
          generalize zb ds k = z at *
          go_wp2_with (at_builtin; refine wpList_append_own _ rfl _ _ 23 rfl w1.heap.size 5 i0 (.int .u8 0) 1 1 Try.underlying23 hi hz0 hz1 hz2 rfl (by decide) _ _ _ rfl (hown.alloc _) ⟨wr.heap.size, 0, none⟩ 1 1 [.int .u8 z] rfl rfl ?c1 ?c2 ?c3 ?c4 ?c5 ?_)
          case c1 =>
            intro j u hj
            match j, hj with
            | 0, hj => simp at hj; subst hj; simp [Addr.add]
          case c2 => intro u hu; simp at hu; subst hu; rfl
          case c3 => unfold maxLen; omega
          case c4 => omega
          case c5 => have := hb.size; simp; omega
          intro v' w2 hown' hgrow _
          go_wp2_with fail
          refine ⟨⟨k + 1, by omega, by go_num, (Below.al hb _).grown hgrow (by have := hb.size; simp; omega) (fun j hj => (hown.lt j hj).1), ?_⟩, by simp [intOf]; omega⟩
          rw [← List.map_take] at hown'
          rw [BS.out, List.map_append]
          exact hown'
        · obtain rfl : k = m := by omega
          obtain ⟨a, cap, rfl, c1, c2, r⟩ := own_row hown rfl (ho.take k) (by rw [List.length_take, hl8.out]; omega)
          go_wp2_with fail
          go_ret
          exact ⟨_, _, _, rfl, by omega, r, Below.andThen B1 hb⟩
#print axioms refData_any
end Go.Proofs.Ytbjbnfhmehkkpaa
