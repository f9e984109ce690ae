/-
  The walk of the document's Hear.
-/
import Derived.Test.YtjfjfohabpjemaaHf
namespace Go.Proofs.Ytjfjfohabpjemaa
open Go.RowKit

abbrev rcV (f t r : Int) (b : Bool) : Value := .tuple #[.int .u8 f, .int .u8 t, .int .u8 r, .bool b]

set_option linter.unusedSimpArgs false in
set_option maxHeartbeats 4000000 in
set_option maxRecDepth 100000 in
theorem rhear_no {w : World} {p : Nat} {a s : Int} (h : w.heap[p]? = some (.cells (maC a s) 30 (0, 0))) (i n d0 d1 d2 d3 d4 d5 d6 d7 : Int) (r : Bool) (hb : (cdB i n d0 d1 d2 d3 d4 d5 d6 d7 r && folB a s d1) = false) : Calls Try.prog 14 #[pt p, frV i n d0 d1 d2 d3 d4 d5 d6 d7 r] w fun e w' => e = .returned (rcV 0 0 0 false) ∧ Below w.heap.size w w' := by
  cases hc : cdB i n d0 d1 d2 d3 d4 d5 d6 d7 r with
  | false =>
    have CD := fun W => rcommanded_no i n d0 d1 d2 d3 d4 d5 d6 d7 r hc W
    clear h hb hc
    go_enter Try.func14, Try.ntmps14
    go_wp2_with fail
    refine (CD _).mono ?_
    rintro e w1 ⟨rfl, hb⟩
    have B1 : Below w.heap.size w w1 := Below.andThen (by repeat (first | exact Below.refl _ _ | apply Below.drew | apply Below.al)) hb
    clear hb CD
    go_wp2_with fail
    exact bodyPost_ret (v := rcV 0 0 0 false) (by simp [results, Try.results14, go_sem]) rfl ⟨rfl, B1⟩
  | true =>
    have CD := fun W => rcommanded_yes i n d0 d1 d2 d3 d4 d5 d6 d7 r hc W
    have hf : folB a s d1 = false := by rw [hc] at hb; simpa using hb
    clear hb hc
    go_enter Try.func14, Try.ntmps14
    go_wp2_with fail
    refine (CD _).mono ?_
    rintro e w1 ⟨rfl, hb⟩
    have B1 : Below w.heap.size w w1 := Below.andThen (by repeat (first | exact Below.refl _ _ | apply Below.drew | apply Below.al)) hb
    have hp := blk11 B1 h
    have p0 : w1.cell? ⟨p, 0, none⟩ = some (.int .u8 a) := by rw [cell_of_row w1 _ 0 _ _ _ hp]; rfl
    have p1 : w1.cell? ⟨p, 1, none⟩ = some (.int .u8 s) := by rw [cell_of_row w1 _ 1 _ _ _ hp]; rfl
    clear hb CD hp h
    by_cases h1 : d1 = 0
    · have hs : s = 0 := by
        by_cases hs : s = 0
        · exact hs
        · simp [folB, h1, hs] at hf
      clear hf
      go_wp2_with fail
      exact bodyPost_ret (v := rcV 0 0 0 false) (by simp [results, Try.results14, go_sem]) rfl ⟨rfl, B1⟩
    · by_cases h2 : d1 = a
      · have hs : s = 0 := by
          by_cases hs : s = 0
          · exact hs
          · simp [folB, h2, hs] at hf
        clear hf
        go_wp2_with fail
        exact bodyPost_ret (v := rcV 0 0 0 false) (by simp [results, Try.results14, go_sem]) rfl ⟨rfl, B1⟩
      · clear hf
        go_wp2_with fail
        exact bodyPost_ret (v := rcV 0 0 0 false) (by simp [results, Try.results14, go_sem]) rfl ⟨rfl, B1⟩

set_option linter.unusedSimpArgs false in
set_option maxHeartbeats 4000000 in
set_option maxRecDepth 100000 in
theorem rhear_1 {w : World} {p : Nat} {a s : Int} (h : w.heap[p]? = some (.cells (maC a s) 30 (0, 0))) (i n d1 d2 d3 d4 d5 d6 d7 : Int) (r : Bool) (hc : cdB i n 1 d1 d2 d3 d4 d5 d6 d7 r = true) (hf : folB a s d1 = true) : Calls Try.prog 14 #[pt p, frV i n 1 d1 d2 d3 d4 d5 d6 d7 r] w fun e w' => e = .returned (rcV s 5 0 true) ∧ w'.heap[p]? = some (.cells (maC a 5) 30 (0, 0)) ∧ Kp [p] w w' := by
  have CD := fun W => rcommanded_yes i n 1 d1 d2 d3 d4 d5 d6 d7 r hc W
  obtain ⟨hs, h1⟩ : ¬ s = 0 ∧ (d1 = 0 ∨ d1 = a) := by simpa [folB] using hf
  clear hf hc
  go_enter Try.func14, Try.ntmps14
  go_wp2_with fail
  refine (CD _).mono ?_
  rintro e w1 ⟨rfl, hb⟩
  have B1 : Below w.heap.size w w1 := Below.andThen (by repeat (first | exact Below.refl _ _ | apply Below.drew | apply Below.al)) hb
  have hp := blk11 B1 h
  have p0 : w1.cell? ⟨p, 0, none⟩ = some (.int .u8 a) := by rw [cell_of_row w1 _ 0 _ _ _ hp]; rfl
  have p1 : w1.cell? ⟨p, 1, none⟩ = some (.int .u8 s) := by rw [cell_of_row w1 _ 1 _ _ _ hp]; rfl
  have z1 := froz11 w1 p 1 _ _ hp
  have l1 := lt_of_heap hp
  have ps : (w1.setCell ⟨p, 1, none⟩ (.int .u8 5)).heap[p]? = some (.cells (maC a 5) 30 (0, 0)) := heap_setCell_same _ _ _ _ _ _ hp
  have c1 : (w1.setCell ⟨p, 1, none⟩ (.int .u8 5)).cell? ⟨p, 1, none⟩ = some (.int .u8 5) := by rw [cell_of_row _ _ 1 _ _ _ ps]; rfl
  have ks : Kp [p] w (w1.setCell ⟨p, 1, none⟩ (.int .u8 5)) := (Kp.of B1).set ⟨p, 1, none⟩ _ (.inl (by simp))
  clear hb CD h
  rcases h1 with h1 | h1
  · go_wp2_with fail
    go_quiet (fail)
    go_wp2_with fail
    have BQ := below_drewN (Below.refl (w1.setCell ⟨p, 1, none⟩ (.int .u8 5)).heap.size (w1.setCell ⟨p, 1, none⟩ (.int .u8 5))) nq
    exact bodyPost_ret (v := rcV s 5 0 true) (by simp [results, Try.results14, go_sem]) rfl ⟨rfl, blk11 BQ ps, ks.trans (Kp.of BQ)⟩
  · by_cases h2 : d1 = 0
    · go_wp2_with fail
      go_quiet (fail)
      go_wp2_with fail
      have BQ := below_drewN (Below.refl (w1.setCell ⟨p, 1, none⟩ (.int .u8 5)).heap.size (w1.setCell ⟨p, 1, none⟩ (.int .u8 5))) nq
      exact bodyPost_ret (v := rcV s 5 0 true) (by simp [results, Try.results14, go_sem]) rfl ⟨rfl, blk11 BQ ps, ks.trans (Kp.of BQ)⟩
    · go_wp2_with fail
      go_quiet (fail)
      go_wp2_with fail
      have BQ := below_drewN (Below.refl (w1.setCell ⟨p, 1, none⟩ (.int .u8 5)).heap.size (w1.setCell ⟨p, 1, none⟩ (.int .u8 5))) nq
      exact bodyPost_ret (v := rcV s 5 0 true) (by simp [results, Try.results14, go_sem]) rfl ⟨rfl, blk11 BQ ps, ks.trans (Kp.of BQ)⟩

set_option linter.unusedSimpArgs false in
set_option maxHeartbeats 4000000 in
set_option maxRecDepth 100000 in
theorem rhear_2 {w : World} {p : Nat} {a s : Int} (h : w.heap[p]? = some (.cells (maC a s) 30 (0, 0))) (i n d1 d2 d3 d4 d5 d6 d7 : Int) (r : Bool) (hc : cdB i n 2 d1 d2 d3 d4 d5 d6 d7 r = true) (hf : folB a s d1 = true) : Calls Try.prog 14 #[pt p, frV i n 2 d1 d2 d3 d4 d5 d6 d7 r] w fun e w' => e = .returned (rcV s 4 0 true) ∧ w'.heap[p]? = some (.cells (maC a 4) 30 (0, 0)) ∧ Kp [p] w w' := by
  have CD := fun W => rcommanded_yes i n 2 d1 d2 d3 d4 d5 d6 d7 r hc W
  obtain ⟨hs, h1⟩ : ¬ s = 0 ∧ (d1 = 0 ∨ d1 = a) := by simpa [folB] using hf
  clear hf hc
  go_enter Try.func14, Try.ntmps14
  go_wp2_with fail
  refine (CD _).mono ?_
  rintro e w1 ⟨rfl, hb⟩
  have B1 : Below w.heap.size w w1 := Below.andThen (by repeat (first | exact Below.refl _ _ | apply Below.drew | apply Below.al)) hb
  have hp := blk11 B1 h
  have p0 : w1.cell? ⟨p, 0, none⟩ = some (.int .u8 a) := by rw [cell_of_row w1 _ 0 _ _ _ hp]; rfl
  have p1 : w1.cell? ⟨p, 1, none⟩ = some (.int .u8 s) := by rw [cell_of_row w1 _ 1 _ _ _ hp]; rfl
  have z1 := froz11 w1 p 1 _ _ hp
  have l1 := lt_of_heap hp
  have ps : (w1.setCell ⟨p, 1, none⟩ (.int .u8 4)).heap[p]? = some (.cells (maC a 4) 30 (0, 0)) := heap_setCell_same _ _ _ _ _ _ hp
  have c1 : (w1.setCell ⟨p, 1, none⟩ (.int .u8 4)).cell? ⟨p, 1, none⟩ = some (.int .u8 4) := by rw [cell_of_row _ _ 1 _ _ _ ps]; rfl
  have ks : Kp [p] w (w1.setCell ⟨p, 1, none⟩ (.int .u8 4)) := (Kp.of B1).set ⟨p, 1, none⟩ _ (.inl (by simp))
  clear hb CD h
  rcases h1 with h1 | h1
  · go_wp2_with fail
    go_quiet (fail)
    go_wp2_with fail
    have BQ := below_drewN (Below.refl (w1.setCell ⟨p, 1, none⟩ (.int .u8 4)).heap.size (w1.setCell ⟨p, 1, none⟩ (.int .u8 4))) nq
    exact bodyPost_ret (v := rcV s 4 0 true) (by simp [results, Try.results14, go_sem]) rfl ⟨rfl, blk11 BQ ps, ks.trans (Kp.of BQ)⟩
  · by_cases h2 : d1 = 0
    · go_wp2_with fail
      go_quiet (fail)
      go_wp2_with fail
      have BQ := below_drewN (Below.refl (w1.setCell ⟨p, 1, none⟩ (.int .u8 4)).heap.size (w1.setCell ⟨p, 1, none⟩ (.int .u8 4))) nq
      exact bodyPost_ret (v := rcV s 4 0 true) (by simp [results, Try.results14, go_sem]) rfl ⟨rfl, blk11 BQ ps, ks.trans (Kp.of BQ)⟩
    · go_wp2_with fail
      go_quiet (fail)
      go_wp2_with fail
      have BQ := below_drewN (Below.refl (w1.setCell ⟨p, 1, none⟩ (.int .u8 4)).heap.size (w1.setCell ⟨p, 1, none⟩ (.int .u8 4))) nq
      exact bodyPost_ret (v := rcV s 4 0 true) (by simp [results, Try.results14, go_sem]) rfl ⟨rfl, blk11 BQ ps, ks.trans (Kp.of BQ)⟩

set_option linter.unusedSimpArgs false in
set_option maxHeartbeats 4000000 in
set_option maxRecDepth 100000 in
theorem rhear_128 {w : World} {p : Nat} {a s : Int} (h : w.heap[p]? = some (.cells (maC a s) 30 (0, 0))) (i n d1 d2 d3 d4 d5 d6 d7 : Int) (r : Bool) (hc : cdB i n 128 d1 d2 d3 d4 d5 d6 d7 r = true) (hf : folB a s d1 = true) : Calls Try.prog 14 #[pt p, frV i n 128 d1 d2 d3 d4 d5 d6 d7 r] w fun e w' => e = .returned (rcV s 127 0 true) ∧ w'.heap[p]? = some (.cells (maC a 127) 30 (0, 0)) ∧ Kp [p] w w' := by
  have CD := fun W => rcommanded_yes i n 128 d1 d2 d3 d4 d5 d6 d7 r hc W
  obtain ⟨hs, h1⟩ : ¬ s = 0 ∧ (d1 = 0 ∨ d1 = a) := by simpa [folB] using hf
  clear hf hc
  go_enter Try.func14, Try.ntmps14
  go_wp2_with fail
  refine (CD _).mono ?_
  rintro e w1 ⟨rfl, hb⟩
  have B1 : Below w.heap.size w w1 := Below.andThen (by repeat (first | exact Below.refl _ _ | apply Below.drew | apply Below.al)) hb
  have hp := blk11 B1 h
  have p0 : w1.cell? ⟨p, 0, none⟩ = some (.int .u8 a) := by rw [cell_of_row w1 _ 0 _ _ _ hp]; rfl
  have p1 : w1.cell? ⟨p, 1, none⟩ = some (.int .u8 s) := by rw [cell_of_row w1 _ 1 _ _ _ hp]; rfl
  have z1 := froz11 w1 p 1 _ _ hp
  have l1 := lt_of_heap hp
  have ps : (w1.setCell ⟨p, 1, none⟩ (.int .u8 127)).heap[p]? = some (.cells (maC a 127) 30 (0, 0)) := heap_setCell_same _ _ _ _ _ _ hp
  have c1 : (w1.setCell ⟨p, 1, none⟩ (.int .u8 127)).cell? ⟨p, 1, none⟩ = some (.int .u8 127) := by rw [cell_of_row _ _ 1 _ _ _ ps]; rfl
  have ks : Kp [p] w (w1.setCell ⟨p, 1, none⟩ (.int .u8 127)) := (Kp.of B1).set ⟨p, 1, none⟩ _ (.inl (by simp))
  clear hb CD h
  rcases h1 with h1 | h1
  · go_wp2_with fail
    go_quiet (fail)
    go_wp2_with fail
    have BQ := below_drewN (Below.refl (w1.setCell ⟨p, 1, none⟩ (.int .u8 127)).heap.size (w1.setCell ⟨p, 1, none⟩ (.int .u8 127))) nq
    exact bodyPost_ret (v := rcV s 127 0 true) (by simp [results, Try.results14, go_sem]) rfl ⟨rfl, blk11 BQ ps, ks.trans (Kp.of BQ)⟩
  · by_cases h2 : d1 = 0
    · go_wp2_with fail
      go_quiet (fail)
      go_wp2_with fail
      have BQ := below_drewN (Below.refl (w1.setCell ⟨p, 1, none⟩ (.int .u8 127)).heap.size (w1.setCell ⟨p, 1, none⟩ (.int .u8 127))) nq
      exact bodyPost_ret (v := rcV s 127 0 true) (by simp [results, Try.results14, go_sem]) rfl ⟨rfl, blk11 BQ ps, ks.trans (Kp.of BQ)⟩
    · go_wp2_with fail
      go_quiet (fail)
      go_wp2_with fail
      have BQ := below_drewN (Below.refl (w1.setCell ⟨p, 1, none⟩ (.int .u8 127)).heap.size (w1.setCell ⟨p, 1, none⟩ (.int .u8 127))) nq
      exact bodyPost_ret (v := rcV s 127 0 true) (by simp [results, Try.results14, go_sem]) rfl ⟨rfl, blk11 BQ ps, ks.trans (Kp.of BQ)⟩

set_option linter.unusedSimpArgs false in
set_option maxHeartbeats 4000000 in
set_option maxRecDepth 100000 in
theorem rhear_129 {w : World} {p : Nat} {a s : Int} (h : w.heap[p]? = some (.cells (maC a s) 30 (0, 0))) (i n d1 d2 d3 d4 d5 d6 d7 : Int) (r : Bool) (hc : cdB i n 129 d1 d2 d3 d4 d5 d6 d7 r = true) (hf : folB a s d1 = true) : Calls Try.prog 14 #[pt p, frV i n 129 d1 d2 d3 d4 d5 d6 d7 r] w fun e w' => e = .returned (rcV s 0 129 true) ∧ w'.heap[p]? = some (.cells (maC a 0) 30 (0, 0)) ∧ Kp [p] w w' := by
  have CD := fun W => rcommanded_yes i n 129 d1 d2 d3 d4 d5 d6 d7 r hc W
  obtain ⟨hs, h1⟩ : ¬ s = 0 ∧ (d1 = 0 ∨ d1 = a) := by simpa [folB] using hf
  clear hf hc
  go_enter Try.func14, Try.ntmps14
  go_wp2_with fail
  refine (CD _).mono ?_
  rintro e w1 ⟨rfl, hb⟩
  have B1 : Below w.heap.size w w1 := Below.andThen (by repeat (first | exact Below.refl _ _ | apply Below.drew | apply Below.al)) hb
  have hp := blk11 B1 h
  have p0 : w1.cell? ⟨p, 0, none⟩ = some (.int .u8 a) := by rw [cell_of_row w1 _ 0 _ _ _ hp]; rfl
  have p1 : w1.cell? ⟨p, 1, none⟩ = some (.int .u8 s) := by rw [cell_of_row w1 _ 1 _ _ _ hp]; rfl
  have z1 := froz11 w1 p 1 _ _ hp
  have l1 := lt_of_heap hp
  have ps : (w1.setCell ⟨p, 1, none⟩ (.int .u8 0)).heap[p]? = some (.cells (maC a 0) 30 (0, 0)) := heap_setCell_same _ _ _ _ _ _ hp
  have c1 : (w1.setCell ⟨p, 1, none⟩ (.int .u8 0)).cell? ⟨p, 1, none⟩ = some (.int .u8 0) := by rw [cell_of_row _ _ 1 _ _ _ ps]; rfl
  have ks : Kp [p] w (w1.setCell ⟨p, 1, none⟩ (.int .u8 0)) := (Kp.of B1).set ⟨p, 1, none⟩ _ (.inl (by simp))
  clear hb CD h
  rcases h1 with h1 | h1
  · go_wp2_with fail
    go_quiet (fail)
    go_wp2_with fail
    have BQ := below_drewN (Below.refl (w1.setCell ⟨p, 1, none⟩ (.int .u8 0)).heap.size (w1.setCell ⟨p, 1, none⟩ (.int .u8 0))) nq
    exact bodyPost_ret (v := rcV s 0 129 true) (by simp [results, Try.results14, go_sem]) rfl ⟨rfl, blk11 BQ ps, ks.trans (Kp.of BQ)⟩
  · by_cases h2 : d1 = 0
    · go_wp2_with fail
      go_quiet (fail)
      go_wp2_with fail
      have BQ := below_drewN (Below.refl (w1.setCell ⟨p, 1, none⟩ (.int .u8 0)).heap.size (w1.setCell ⟨p, 1, none⟩ (.int .u8 0))) nq
      exact bodyPost_ret (v := rcV s 0 129 true) (by simp [results, Try.results14, go_sem]) rfl ⟨rfl, blk11 BQ ps, ks.trans (Kp.of BQ)⟩
    · go_wp2_with fail
      go_quiet (fail)
      go_wp2_with fail
      have BQ := below_drewN (Below.refl (w1.setCell ⟨p, 1, none⟩ (.int .u8 0)).heap.size (w1.setCell ⟨p, 1, none⟩ (.int .u8 0))) nq
      exact bodyPost_ret (v := rcV s 0 129 true) (by simp [results, Try.results14, go_sem]) rfl ⟨rfl, blk11 BQ ps, ks.trans (Kp.of BQ)⟩

set_option linter.unusedSimpArgs false in
set_option maxHeartbeats 4000000 in
set_option maxRecDepth 100000 in
theorem rhear_130 {w : World} {p : Nat} {a s : Int} (h : w.heap[p]? = some (.cells (maC a s) 30 (0, 0))) (i n d1 d2 d3 d4 d5 d6 d7 : Int) (r : Bool) (hc : cdB i n 130 d1 d2 d3 d4 d5 d6 d7 r = true) (hf : folB a s d1 = true) : Calls Try.prog 14 #[pt p, frV i n 130 d1 d2 d3 d4 d5 d6 d7 r] w fun e w' => e = .returned (rcV s 0 130 true) ∧ w'.heap[p]? = some (.cells (maC a 0) 30 (0, 0)) ∧ Kp [p] w w' := by
  have CD := fun W => rcommanded_yes i n 130 d1 d2 d3 d4 d5 d6 d7 r hc W
  obtain ⟨hs, h1⟩ : ¬ s = 0 ∧ (d1 = 0 ∨ d1 = a) := by simpa [folB] using hf
  clear hf hc
  go_enter Try.func14, Try.ntmps14
  go_wp2_with fail
  refine (CD _).mono ?_
  rintro e w1 ⟨rfl, hb⟩
  have B1 : Below w.heap.size w w1 := Below.andThen (by repeat (first | exact Below.refl _ _ | apply Below.drew | apply Below.al)) hb
  have hp := blk11 B1 h
  have p0 : w1.cell? ⟨p, 0, none⟩ = some (.int .u8 a) := by rw [cell_of_row w1 _ 0 _ _ _ hp]; rfl
  have p1 : w1.cell? ⟨p, 1, none⟩ = some (.int .u8 s) := by rw [cell_of_row w1 _ 1 _ _ _ hp]; rfl
  have z1 := froz11 w1 p 1 _ _ hp
  have l1 := lt_of_heap hp
  have ps : (w1.setCell ⟨p, 1, none⟩ (.int .u8 0)).heap[p]? = some (.cells (maC a 0) 30 (0, 0)) := heap_setCell_same _ _ _ _ _ _ hp
  have c1 : (w1.setCell ⟨p, 1, none⟩ (.int .u8 0)).cell? ⟨p, 1, none⟩ = some (.int .u8 0) := by rw [cell_of_row _ _ 1 _ _ _ ps]; rfl
  have ks : Kp [p] w (w1.setCell ⟨p, 1, none⟩ (.int .u8 0)) := (Kp.of B1).set ⟨p, 1, none⟩ _ (.inl (by simp))
  clear hb CD h
  rcases h1 with h1 | h1
  · go_wp2_with fail
    go_quiet (fail)
    go_wp2_with fail
    have BQ := below_drewN (Below.refl (w1.setCell ⟨p, 1, none⟩ (.int .u8 0)).heap.size (w1.setCell ⟨p, 1, none⟩ (.int .u8 0))) nq
    exact bodyPost_ret (v := rcV s 0 130 true) (by simp [results, Try.results14, go_sem]) rfl ⟨rfl, blk11 BQ ps, ks.trans (Kp.of BQ)⟩
  · by_cases h2 : d1 = 0
    · go_wp2_with fail
      go_quiet (fail)
      go_wp2_with fail
      have BQ := below_drewN (Below.refl (w1.setCell ⟨p, 1, none⟩ (.int .u8 0)).heap.size (w1.setCell ⟨p, 1, none⟩ (.int .u8 0))) nq
      exact bodyPost_ret (v := rcV s 0 130 true) (by simp [results, Try.results14, go_sem]) rfl ⟨rfl, blk11 BQ ps, ks.trans (Kp.of BQ)⟩
    · go_wp2_with fail
      go_quiet (fail)
      go_wp2_with fail
      have BQ := below_drewN (Below.refl (w1.setCell ⟨p, 1, none⟩ (.int .u8 0)).heap.size (w1.setCell ⟨p, 1, none⟩ (.int .u8 0))) nq
      exact bodyPost_ret (v := rcV s 0 130 true) (by simp [results, Try.results14, go_sem]) rfl ⟨rfl, blk11 BQ ps, ks.trans (Kp.of BQ)⟩

theorem rhear_yes {w : World} {p : Nat} {a s : Int} (h : w.heap[p]? = some (.cells (maC a s) 30 (0, 0))) (i n d0 d1 d2 d3 d4 d5 d6 d7 : Int) (r : Bool) (hc : cdB i n d0 d1 d2 d3 d4 d5 d6 d7 r = true) (hf : folB a s d1 = true) : Calls Try.prog 14 #[pt p, frV i n d0 d1 d2 d3 d4 d5 d6 d7 r] w fun e w' => e = .returned (rcV s (toC d0) (rsC d0) true) ∧ w'.heap[p]? = some (.cells (maC a (toC d0)) 30 (0, 0)) ∧ Kp [p] w w' := by
  have hm : cmdB d0 = true := ((cdB_doc i n d0 d1 d2 d3 d4 d5 d6 d7 r).2 hc).2.2.2.2.1
  rcases cmdB_cases hm with rfl | rfl | rfl | rfl | rfl
  · exact rhear_1 h i n d1 d2 d3 d4 d5 d6 d7 r hc hf
  · exact rhear_2 h i n d1 d2 d3 d4 d5 d6 d7 r hc hf
  · exact rhear_128 h i n d1 d2 d3 d4 d5 d6 d7 r hc hf
  · exact rhear_129 h i n d1 d2 d3 d4 d5 d6 d7 r hc hf
  · exact rhear_130 h i n d1 d2 d3 d4 d5 d6 d7 r hc hf
#print axioms rhear_yes
end Go.Proofs.Ytjfjfohabpjemaa
