/-
  The walk of the document's Write.
-/
import Derived.Test.YtbjbnfhmehkkpaaWr
import Derived.BigQuiet
import Derived.Deep.QuietTactic
namespace Go.Proofs.Ytbjbnfhmehkkpaa
open Go.RowKit

theorem digit_int (x : Int) (w : World) (h0 : 0 ≤ x) (h1 : x < 16) :
    Calls Try.prog 25 #[.int .i64 x] w fun e w' => e = .returned (.string (strOfNums [digZ x])) ∧ w' = w := by
  obtain ⟨m, rfl⟩ := Int.eq_ofNat_of_zero_le h0
  exact digit_any m w (by omega)

theorem wrap_small (n : Int) (h0 : -9223372036854775808 ≤ n) (h1 : n < 9223372036854775808) : IntKind.i64.wrap n = n := by rw [IntKind.wrap_i64]; omega

theorem digit_hi (z : Int) (w : World) (h0 : 0 ≤ z) (h1 : z < 256) :
    Calls Try.prog 25 #[.int .i64 (IntKind.i64.wrap ((IntKind.i64.wrap z).tdiv 16))] w fun e w' => e = .returned (.string (strOfNums [digZ (z / 16)])) ∧ w' = w := by
  have e : IntKind.i64.wrap ((IntKind.i64.wrap z).tdiv 16) = z / 16 := by
    rw [wrap_small z (by omega) (by omega), Int.tdiv_eq_ediv_of_nonneg h0, wrap_small _ (by omega) (by omega)]
  rw [e]
  exact digit_int _ w (by omega) (by omega)
theorem digit_lo (z : Int) (w : World) (h0 : 0 ≤ z) (h1 : z < 256) :
    Calls Try.prog 25 #[.int .i64 (IntKind.i64.wrap ((IntKind.i64.wrap z).tmod 16))] w fun e w' => e = .returned (.string (strOfNums [digZ (z % 16)])) ∧ w' = w := by
  have e : IntKind.i64.wrap ((IntKind.i64.wrap z).tmod 16) = z % 16 := by
    rw [wrap_small z (by omega) (by omega), Int.tmod_eq_emod_of_nonneg h0, wrap_small _ (by omega) (by omega)]
  rw [e]
  exact digit_int _ w (by omega) (by omega)

theorem strOfNums_append (a b : List Int) : strOfNums a ++ strOfNums b = strOfNums (a ++ b) := by
  apply ByteArray.ext
  simp [strOfNums]

theorem ret_si {a b : ByteArray} {c : Int} (h : a = b) : Ending.returned (.tuple #[.string a, .int .i64 c]) = .returned (.tuple #[.string b, .int .i64 c]) := by rw [h]

set_option maxHeartbeats 4000000 in
set_option maxRecDepth 100000 in
theorem refWrite_right (id n d0 d1 d2 d3 d4 d5 d6 d7 : Int) (r : Bool) (w : World) (ho : Oct [d0, d1, d2, d3, d4, d5, d6, d7]) (hid : 0 ≤ id) (hq : rightB id n [d0, d1, d2, d3, d4, d5, d6, d7] r = true) :
    Calls Try.prog 13 #[frV id n d0 d1 d2 d3 d4 d5 d6 d7 r] w fun e w' => e = .returned (.tuple #[.string (strOfNums (wrL id n [d0, d1, d2, d3, d4, d5, d6, d7] r)), .int .i64 0]) ∧ Below w.heap.size w w' := by
  have hR := fun w => refRight_any id n d0 d1 d2 d3 d4 d5 d6 d7 r w
  rw [hq] at hR
  obtain ⟨hid1, hn0, hn8⟩ := rightB_n _ _ _ _ hq
  clear hq
  have dg0 := fun w => digit_int (id / 256) w (by omega) (by omega)
  have dg1 := fun w => digit_int (id / 16 % 16) w (by omega) (by omega)
  have dg2 := fun w => digit_int (id % 16) w (by omega) (by omega)
  have HH : Hid (strOfNums [digZ (id / 256)] ++ strOfNums [digZ (id / 16 % 16)] ++ strOfNums [digZ (id % 16)] ++ (⟨#[35]⟩ : ByteArray) = strOfNums (headL id)) := by
    show _ = _
    rw [show (⟨#[35]⟩ : ByteArray) = strOfNums [35] from rfl, strOfNums_append, strOfNums_append, strOfNums_append]
    rfl
  obtain ⟨ds, HD⟩ : ∃ ds, Hid ([d0, d1, d2, d3, d4, d5, d6, d7] = ds) := ⟨_, rfl⟩
  have hl8 : Hid (ds.length = 8) := by show _ = _; rw [← HD.out]; rfl
  have hbyte := fun w i hi => box_byte w id n d0 d1 d2 d3 d4 d5 d6 d7 r i hi
  rw [HD.out] at ho hbyte ⊢
  go_enter Try.func13, Try.ntmps13
  go_wp2_with fail
  refine (hR _).mono ?_
  rintro e w1 ⟨rfl, hb1⟩
  have HB : Hid (∀ i, i < 8 → w1.cell? ⟨w.heap.size, 2 + i, none⟩ = some (.int .u8 (zb ds i))) := fun i hi => (hb1.cell (p := ⟨w.heap.size, 2 + i, none⟩) (by simp)).trans (hbyte w i hi)
  obtain ⟨B1, c0, c1, c2, c3, c4, c5, c6, c7, c8, c9, c10⟩ := hold_next (boxed w id n d0 d1 d2 d3 d4 d5 d6 d7 r) hb1
  have HB1 : w.heap.size < w1.heap.size := block_lt_of_cell c0
  clear hb1 hR hbyte c2 c3 c4 c5 c6 c7 c8 c9 HD
  go_wp2_with fail
  refine (dg0 _).mono ?_
  rintro e w1 ⟨rfl, rfl⟩
  go_wp2_with fail
  refine (dg1 _).mono ?_
  rintro e w1 ⟨rfl, rfl⟩
  go_wp2_with fail
  refine (dg2 _).mono ?_
  rintro e w1 ⟨rfl, rfl⟩
  clear dg0 dg1 dg2
  cases r with
  | true =>
    have dg3 := fun w => digit_int n w (by omega) (by omega)
    go_wp2_with fail
    refine (dg3 _).mono ?_
    rintro e w1 ⟨rfl, rfl⟩
    go_wp2_with fail
    go_ret2
    exact ⟨ret_si (by rw [HH.out, show (⟨#[82]⟩ : ByteArray) = strOfNums [82] from rfl, strOfNums_append, strOfNums_append]; simp [wrL]), B1⟩
  | false =>
    obtain ⟨m, rfl⟩ := Int.eq_ofNat_of_zero_le hn0
    have HN : Hid (strOfNums (headL id ++ hexL (ds.take 0)) = strOfNums (headL id)) := by show _ = _; simp [hexL]
    go_wp2_with fail
    rw [HH.out]
    go_loopw [5, 6] (fun s i wr => ∃ k : Nat, k ≤ m ∧ i = .int .i64 (k : Int) ∧ Below w1.heap.size w1 wr ∧ s = .string (strOfNums (headL id ++ hexL (ds.take k)))) (fun _ i _ => m - (intOf i).toNat)
    case atStart => exact ⟨0, Nat.zero_le _, rfl, Below.refl _ _, by rw [HN.out]⟩
    case round =>
      obtain ⟨k, hk, rfl, hb, rfl⟩ := hrel
      have c1' := (hb.cell (p := ⟨w.heap.size, 1, none⟩) HB1).trans c1
      clear c0 c1 c10
      by_cases hlt : k < m
      · have hlt' : (k : Int) < (m : Int) := by omega
        have hk8 : (k : Int) < 8 := by omega
        have hck := (hb.cell (p := ⟨w.heap.size, 2 + k, none⟩) HB1).trans (HB.out k (by omega))
        have hzb : 0 ≤ zb ds k ∧ zb ds k < 256 := ho.getD k
        have BS : Hid (strOfNums (headL id ++ hexL (ds.take k)) ++ strOfNums [digZ (zb ds k / 16)] ++ strOfNums [digZ (zb ds k % 16)] = strOfNums (headL id ++ hexL (ds.take (k + 1)))) := by
          show _ = _
          rw [take_zb ds k (by rw [hl8.out]; omega), hexL_snoc, strOfNums_append, strOfNums_append]
          simp
        have dg0 := fun w => digit_hi (zb ds k) w hzb.1 hzb.2
        have dg1 := fun w => digit_lo (zb ds k) w hzb.1 hzb.2
        have t0 : (strOfNums (headL id ++ hexL (ds.take k))).size = 4 + 2 * k := by rw [strOfNums_size]; simp [headL, hexL_length, hl8.out]; omega
        have t1 : (strOfNums [digZ (zb ds k / 16)]).size = 1 := by rw [strOfNums_size]; rfl
        have t2 : (strOfNums [digZ (zb ds k % 16)]).size = 1 := by rw [strOfNums_size]; rfl
        have s1 : ¬ (9223372036854775807 < (strOfNums (headL id ++ hexL (ds.take k))).size + (strOfNums [digZ (zb ds k / 16)]).size) := by omega
        have s2 : ¬ (9223372036854775807 < (strOfNums (headL id ++ hexL (ds.take k))).size + (strOfNums [digZ (zb ds k / 16)]).size + (strOfNums [digZ (zb ds k % 16)]).size) := by omega
        clear t0 t1 t2
        have q1 := wrap_small (zb ds k) (by omega) (by omega)
        have q2 : (zb ds k).tdiv 16 = zb ds k / 16 := Int.tdiv_eq_ediv_of_nonneg hzb.1
        have q3 : (zb ds k).tmod 16 = zb ds k % 16 := Int.tmod_eq_emod_of_nonneg hzb.1
        have q4 := wrap_small (zb ds k / 16) (by omega) (by omega)
        have q5 := wrap_small (zb ds k % 16) (by omega) (by omega)
        have dh0 := fun w => digit_int (zb ds k / 16) w (by omega) (by omega)
        have dh1 := fun w => digit_int (zb ds k % 16) w (by omega) (by omega)
        obtain ⟨hzb0, hzb1⟩ := hzb
        generalize zb ds k = z at *
        generalize strOfNums (headL id ++ hexL (ds.take k)) = T0 at *
        generalize strOfNums [digZ (z / 16)] = T1 at *
        generalize strOfNums [digZ (z % 16)] = T2 at *
        go_wp2_with fail
        go_region_held3 (fun x => x.cell? ⟨w.heap.size, 2 + k, none⟩ = some (.int .u8 z) ∧ Below w1.heap.size w1 x) (first | exact ⟨hck, Below.drew hb⟩ | assumption)
          (first | ((go_at_call 25; refine (dg0 _).mono ?_; rintro e x ⟨rfl, rfl⟩)) | ((go_at_call 25; refine (dg1 _).mono ?_; rintro e x ⟨rfl, rfl⟩)) | ((go_at_call 25; refine (dh0 _).mono ?_; rintro e x ⟨rfl, rfl⟩)) | ((go_at_call 25; refine (dh1 _).mono ?_; rintro e x ⟨rfl, rfl⟩)))
        all_goals
          go_wp2_with fail
          exact ⟨⟨k + 1, by omega, by go_num, And.right (by assumption), by rw [BS.out]⟩, by simp [intOf]; omega⟩
      · obtain rfl : k = m := by omega
        go_wp2_with fail
        go_ret2
        exact ⟨ret_si (by simp [wrL]), Below.andThen B1 hb⟩
#print axioms refWrite_right

theorem refWrite_any (id n d0 d1 d2 d3 d4 d5 d6 d7 : Int) (r : Bool) (w : World) (ho : Oct [d0, d1, d2, d3, d4, d5, d6, d7]) (hid : 0 ≤ id) :
    Calls Try.prog 13 #[frV id n d0 d1 d2 d3 d4 d5 d6 d7 r] w fun e w' => e = .returned (.tuple #[.string (strOfNums (wrS id n [d0, d1, d2, d3, d4, d5, d6, d7] r)), .int .i64 (wrE id n [d0, d1, d2, d3, d4, d5, d6, d7] r)]) ∧ Below w.heap.size w w' := by
  cases hq : rightB id n [d0, d1, d2, d3, d4, d5, d6, d7] r with
  | true =>
    rw [show wrS id n [d0, d1, d2, d3, d4, d5, d6, d7] r = wrL id n [d0, d1, d2, d3, d4, d5, d6, d7] r from by simp [wrS, hq], show wrE id n [d0, d1, d2, d3, d4, d5, d6, d7] r = 0 from by simp [wrE, hq]]
    exact refWrite_right id n d0 d1 d2 d3 d4 d5 d6 d7 r w ho hid hq
  | false =>
    rw [show wrS id n [d0, d1, d2, d3, d4, d5, d6, d7] r = [] from by simp [wrS, hq], show wrE id n [d0, d1, d2, d3, d4, d5, d6, d7] r = 30 from by simp [wrE, hq]]
    have hR := fun w => refRight_any id n d0 d1 d2 d3 d4 d5 d6 d7 r w
    rw [hq] at hR
    clear hq
    go_enter Try.func13, Try.ntmps13
    go_wp2_with fail
    refine (hR _).mono ?_
    rintro e w1 ⟨rfl, hb1⟩
    go_wp2_with fail
    go_ret2
    exact ⟨rfl, Below.andThen (Below.al (Below.refl _ _) _) hb1⟩
#print axioms refWrite_any
end Go.Proofs.Ytbjbnfhmehkkpaa
