/-
  The walks of what a beat is: isTime, counted, behind, frame, may, number.
-/
import Derived.Test.YtlijkgkkoahajaaYb
namespace Go.Proofs.Ytlijkgkkoahajaa
open Go.RowKit

/-- Is it a time? -/
def tmB (n : Int) : Bool := decide (0 ≤ n) && decide (n ≤ 1099511627776)
theorem tmB_t {n : Int} (h0 : 0 ≤ n) (h1 : n ≤ 1099511627776) : tmB n = true := by simp [tmB, h0, h1]
theorem tmB_f {n : Int} (h : n < 0 ∨ 1099511627776 < n) : tmB n = false := by simp [tmB]; omega
theorem tmB_of {n : Int} (h : tmB n = true) : 0 ≤ n ∧ n ≤ 1099511627776 := by simpa [tmB] using h
theorem tmB_no {n : Int} (h : tmB n = false) : n < 0 ∨ 1099511627776 < n := by simp [tmB] at h; omega

set_option linter.unusedSimpArgs false in
set_option maxHeartbeats 4000000 in
set_option maxRecDepth 100000 in
theorem isTime_any (n : Int) (w : World) : Calls Try.prog 35 #[.int .i64 n] w fun e w' => e = .returned (.bool (tmB n)) ∧ w' = w := by
  by_cases h0 : n < 0
  · go_enter Try.func35, Try.ntmps35
    go_wp2_with fail
    go_ret
    exact ⟨ret_bool (by rw [Bool.eq_iff_iff]; first | (simp [tmB]; done) | (simp [tmB]; omega)), rfl⟩
  · by_cases h1 : 1099511627776 < n
    · go_enter Try.func35, Try.ntmps35
      go_wp2_with fail
      go_ret
      exact ⟨ret_bool (by rw [Bool.eq_iff_iff]; first | (simp [tmB]; done) | (simp [tmB]; omega)), rfl⟩
    · go_enter Try.func35, Try.ntmps35
      go_wp2_with fail
      go_ret
      exact ⟨ret_bool (by rw [Bool.eq_iff_iff]; first | (simp [tmB]; done) | (simp [tmB]; omega)), rfl⟩

set_option linter.unusedSimpArgs false in
set_option maxHeartbeats 4000000 in
set_option maxRecDepth 100000 in
theorem time_any (n : Int) (w : World) : Calls Try.prog 36 #[.int .i64 n] w fun e w' => e = .returned (.bool (tmB n)) ∧ w' = w := by
  by_cases h0 : n < 0
  · go_enter Try.func36, Try.ntmps36
    go_wp2_with fail
    go_ret
    exact ⟨ret_bool (by rw [Bool.eq_iff_iff]; first | (simp [tmB]; done) | (simp [tmB]; omega)), rfl⟩
  · by_cases h1 : 1099511627776 < n
    · go_enter Try.func36, Try.ntmps36
      go_wp2_with fail
      go_ret
      exact ⟨ret_bool (by rw [Bool.eq_iff_iff]; first | (simp [tmB]; done) | (simp [tmB]; omega)), rfl⟩
    · go_enter Try.func36, Try.ntmps36
      go_wp2_with fail
      go_ret
      exact ⟨ret_bool (by rw [Bool.eq_iff_iff]; first | (simp [tmB]; done) | (simp [tmB]; omega)), rfl⟩

/-- May beats be counted so? -/
def tpB (t : Int) : Bool := decide (t = 0) || (decide (2 ≤ t) && decide (t ≤ 240))

set_option linter.unusedSimpArgs false in
set_option maxHeartbeats 4000000 in
set_option maxRecDepth 100000 in
theorem top_any (t : Int) (w : World) : Calls Try.prog 37 #[.int .u8 t] w fun e w' => e = .returned (.bool (tpB t)) ∧ w' = w := by
  by_cases h0 : t = 0
  · subst h0
    go_enter Try.func37, Try.ntmps37
    go_wp2_with fail
    go_ret
    exact ⟨ret_bool (by rw [Bool.eq_iff_iff]; first | (simp [tpB]; done) | (simp [tpB]; omega)), rfl⟩
  · by_cases h1 : t < 2
    · go_enter Try.func37, Try.ntmps37
      go_wp2_with fail
      go_ret
      exact ⟨ret_bool (by rw [Bool.eq_iff_iff]; first | (simp [tpB]; done) | (simp [tpB]; omega)), rfl⟩
    · by_cases h2 : 240 < t
      · go_enter Try.func37, Try.ntmps37
        go_wp2_with fail
        go_ret
        exact ⟨ret_bool (by rw [Bool.eq_iff_iff]; first | (simp [tpB]; done) | (simp [tpB]; omega)), rfl⟩
      · go_enter Try.func37, Try.ntmps37
        go_wp2_with fail
        go_ret
        exact ⟨ret_bool (by rw [Bool.eq_iff_iff]; first | (simp [tpB]; done) | (simp [tpB]; omega)), rfl⟩

/-- A beat's cells. -/
abbrev btC (id top : Int) : Array Value := #[.int .u16 id, .int .u8 top]
abbrev btV (id top : Int) : Value := .agg (btC id top)

set_option linter.unusedSimpArgs false in
set_option maxHeartbeats 4000000 in
set_option maxRecDepth 100000 in
theorem counted_0 (id : Int) (w : World) : Calls Try.prog 41 #[btV id 0] w fun e w' => e = .returned (.bool false) ∧ w' = w.alloc (.cells (btC id 0) 79) := by
  go_enter Try.func41, Try.ntmps41
  go_wp2_with fail
  go_ret
  exact ⟨rfl, rfl⟩
set_option linter.unusedSimpArgs false in
set_option maxHeartbeats 4000000 in
set_option maxRecDepth 100000 in
theorem counted_1 (id top : Int) (h : ¬ top = 0) (w : World) : Calls Try.prog 41 #[btV id top] w fun e w' => e = .returned (.bool true) ∧ w' = w.alloc (.cells (btC id top) 79) := by
  go_enter Try.func41, Try.ntmps41
  go_wp2_with fail
  go_ret
  exact ⟨ret_bool (by simpa using h), rfl⟩

/-- The number behind another one. -/
def nxt (top n : Int) : Int := if top ≤ n then 1 else n + 1
set_option linter.unusedSimpArgs false in
set_option maxHeartbeats 4000000 in
set_option maxRecDepth 100000 in
theorem behind_any (id top n : Int) (h0 : 0 ≤ n) (h1 : n < 256) (ht : top < 256) (w : World) : Calls Try.prog 39 #[btV id top, .int .u8 n] w fun e w' => e = .returned (.int .u8 (nxt top n)) ∧ w' = w.alloc (.cells (btC id top) 79) := by
  by_cases h : top ≤ n
  · have H : Hid (nxt top n = 1) := if_pos h
    go_enter Try.func39, Try.ntmps39
    go_wp2_with fail
    go_ret
    exact ⟨ret_int H.out.symm, rfl⟩
  · have H : Hid (nxt top n = n + 1) := if_neg h
    go_enter Try.func39, Try.ntmps39
    go_wp2_with fail
    go_ret
    exact ⟨ret_int H.out.symm, rfl⟩

/-- A beat's frame, as a value. -/
abbrev bfV (id top n : Int) : Value := if top = 0 then frV id 0 0 0 0 0 0 0 0 0 false else frV id 1 n 0 0 0 0 0 0 0 false

theorem row_one (W : World) (n : Int) (hn : 0 ≤ n ∧ n < 256) (k : Nat) (hk : k = W.heap.size) : Row (W.alloc (.cells #[.int .u8 n] 5)) (some ⟨k, 0, none⟩) 1 [n] := by
  subst hk
  exact row_lit _ _ _ [n] 1 rfl (fun m hm => by rw [List.mem_singleton] at hm; rw [hm]; exact hn) rfl

set_option linter.unusedSimpArgs false in
set_option maxHeartbeats 4000000 in
set_option maxRecDepth 100000 in
theorem frame_0 (id n : Int) (hi : id ≤ 2047) (w : World) : Calls Try.prog 38 #[btV id 0, .int .u8 n] w fun e w' => e = .returned (frV id 0 0 0 0 0 0 0 0 0 false) ∧ Below w.heap.size w w' := by
  have MK := fun W => make_any id none 0 0 [] W (row_nil W)
  rw [mkR_good id [] hi (by simp)] at MK
  go_enter Try.func38, Try.ntmps38
  go_wp2_with fail
  refine (counted_0 _ _).mono ?_
  rintro e w1 ⟨rfl, rfl⟩
  go_wp2_with fail
  refine (MK _).mono ?_
  rintro e w1 ⟨rfl, hb⟩
  have B1 : Below w.heap.size w w1 := Below.andThen (by repeat (first | exact Below.refl _ _ | apply Below.drew | apply Below.al)) hb
  have hg : w1.heap[w.heap.size + 1]? = some (.cells (frC 0 0 0 0 0 0 0 0 0 0 false) 39 (0, 0)) := (hb.block _ (by simp)).trans (by repeat (first | exact at11 _ _ _ (by simp) | assumption | refine ext11 ?_))
  clear hb MK
  go_wp2_with (refine wpList_store_row rfl 39 _ _ rfl (w.heap.size + 1) (frC id 0 0 0 0 0 0 0 0 0 false) rfl rfl 39 _ ((Below.heap_alloc _ _ _ (lt_of_heap hg)).trans hg) infoF rfl (frC_one _ _ _ _ _ _ _ _ _ _ _) ?_)
  have hc := fun (o : Obj) j => cell_of_row ((w1.alloc o).setRow (w.heap.size + 1) (frC id 0 0 0 0 0 0 0 0 0 false)) (w.heap.size + 1) j _ _ _ (setRow_heap _ _ _ _ _ _ (ext11 hg))
  refine bodyPost_ret (v := frV id 0 0 0 0 0 0 0 0 0 false) ?_ rfl ⟨rfl, below_setRow (Below.al B1 _) (by omega) _⟩
  simp [results, Try.results38, go_sem, hc]
set_option linter.unusedSimpArgs false in
set_option maxHeartbeats 4000000 in
set_option maxRecDepth 100000 in
theorem frame_1 (id top n : Int) (hi : id ≤ 2047) (h : ¬ top = 0) (hn : 0 ≤ n ∧ n < 256) (w : World) : Calls Try.prog 38 #[btV id top, .int .u8 n] w fun e w' => e = .returned (frV id 1 n 0 0 0 0 0 0 0 false) ∧ Below w.heap.size w w' := by
  have MK := fun (W W' : World) (hb : Below W.heap.size W W') (hr : Row W (some ⟨w.heap.size + 1 + 1, 0, none⟩) 1 [n]) => make_any id (some ⟨w.heap.size + 1 + 1, 0, none⟩) 1 1 [n] W' (hr.next hb)
  rw [mkR_good id [n] hi (by simp)] at MK
  go_enter Try.func38, Try.ntmps38
  go_wp2_with fail
  refine (counted_1 _ _ h _).mono ?_
  rintro e w1 ⟨rfl, rfl⟩
  go_wp2_with fail
  refine (MK _ _ (Below.al (Below.refl _ _) _) (row_one _ n hn _ (by simp))).mono ?_
  rintro e w1 ⟨rfl, hb⟩
  have B1 : Below w.heap.size w w1 := Below.andThen (by repeat (first | exact Below.refl _ _ | apply Below.drew | apply Below.al)) hb
  have hg : w1.heap[w.heap.size + 1]? = some (.cells (frC 0 0 0 0 0 0 0 0 0 0 false) 39 (0, 0)) := (hb.block _ (by simp)).trans (by repeat (first | exact at11 _ _ _ (by simp) | assumption | refine ext11 ?_))
  clear hb MK
  go_wp2_with (refine wpList_store_row rfl 39 _ _ rfl (w.heap.size + 1) (frC id 1 n 0 0 0 0 0 0 0 false) rfl rfl 39 _ ((Below.heap_alloc _ _ _ (lt_of_heap hg)).trans hg) infoF rfl (frC_one _ _ _ _ _ _ _ _ _ _ _) ?_)
  have hc := fun (o : Obj) j => cell_of_row ((w1.alloc o).setRow (w.heap.size + 1) (frC id 1 n 0 0 0 0 0 0 0 false)) (w.heap.size + 1) j _ _ _ (setRow_heap _ _ _ _ _ _ (ext11 hg))
  refine bodyPost_ret (v := frV id 1 n 0 0 0 0 0 0 0 false) ?_ rfl ⟨rfl, below_setRow (Below.al B1 _) (by omega) _⟩
  simp [results, Try.results38, go_sem, hc]

set_option linter.unusedSimpArgs false in
set_option maxHeartbeats 4000000 in
set_option maxRecDepth 100000 in
theorem may_any (id top : Int) (w : World) : Calls Try.prog 34 #[btV id top] w fun e w' => e = .returned (.bool (decide (id ≤ 2047) && tpB top)) ∧ Below w.heap.size w w' := by
  have MK := fun W => make_any id none 0 0 [] W (row_nil W)
  by_cases hi : 2047 < id
  · rw [mkR_bad id [] (.inl hi)] at MK
    go_enter Try.func34, Try.ntmps34
    go_wp2_with fail
    refine (MK _).mono ?_
    rintro e w1 ⟨rfl, hb⟩
    have B1 : Below w.heap.size w w1 := Below.andThen (by repeat (first | exact Below.refl _ _ | apply Below.drew | apply Below.al)) hb
    clear hb MK
    go_wp2_with fail
    go_ret
    exact ⟨ret_bool (by simp; omega), Below.al B1 _⟩
  · rw [mkR_good id [] (by omega) (by simp)] at MK
    have H : Hid (decide (id ≤ 2047) = true) := by show _ = _; simp; omega
    by_cases ht : top = 0
    · subst ht
      go_enter Try.func34, Try.ntmps34
      go_wp2_with fail
      refine (MK _).mono ?_
      rintro e w1 ⟨rfl, hb⟩
      have B1 : Below w.heap.size w w1 := Below.andThen (by repeat (first | exact Below.refl _ _ | apply Below.drew | apply Below.al)) hb
      have c0 : w1.cell? ⟨w.heap.size, 0, none⟩ = some (.int .u16 id) := (hb.cell (p := ⟨w.heap.size, 0, none⟩) (by simp)).trans (by simp [go_sem])
      have c1 : w1.cell? ⟨w.heap.size, 1, none⟩ = some (.int .u8 0) := (hb.cell (p := ⟨w.heap.size, 1, none⟩) (by simp)).trans (by simp [go_sem])
      have lt : w.heap.size < w1.heap.size := by have := hb.size; simp at this; omega
      clear hb MK
      go_wp2_with fail
      refine (counted_0 _ _).mono ?_
      rintro e w2 ⟨rfl, rfl⟩
      go_wp2_with fail
      go_ret
      exact ⟨ret_bool (by rw [H.out]; simp [tpB]), Below.al (Below.al B1 _) _⟩
    · have TP : Hid (tpB top = (decide (2 ≤ top) && decide (top ≤ 240))) := by show _ = _; simp [tpB, ht]
      by_cases h2 : top < 2
      all_goals
        go_enter Try.func34, Try.ntmps34
        go_wp2_with fail
        refine (MK _).mono ?_
        rintro e w1 ⟨rfl, hb⟩
        have B1 : Below w.heap.size w w1 := Below.andThen (by repeat (first | exact Below.refl _ _ | apply Below.drew | apply Below.al)) hb
        have c0 : w1.cell? ⟨w.heap.size, 0, none⟩ = some (.int .u16 id) := (hb.cell (p := ⟨w.heap.size, 0, none⟩) (by simp)).trans (by simp [go_sem])
        have c1 : w1.cell? ⟨w.heap.size, 1, none⟩ = some (.int .u8 top) := (hb.cell (p := ⟨w.heap.size, 1, none⟩) (by simp)).trans (by simp [go_sem])
        have lt : w.heap.size < w1.heap.size := by have := hb.size; simp at this; omega
        clear hb
        go_wp2_with fail
        refine (counted_1 _ _ ht _).mono ?_
        rintro e w2 ⟨rfl, rfl⟩
        go_wp2_with fail
        go_ret
        exact ⟨ret_bool (by try rw [H.out]
                            rw [TP.out, Bool.eq_iff_iff]; simp; try omega), Below.al (Below.al B1 _) _⟩
#print axioms may_any
end Go.Proofs.Ytlijkgkkoahajaa
