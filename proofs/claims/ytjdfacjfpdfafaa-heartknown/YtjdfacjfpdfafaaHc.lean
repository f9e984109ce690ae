/-
  The walks of the beaters' Tick, the program's and the document's.
-/
import Derived.Test.YtjdfacjfpdfafaaHb
namespace Go.Proofs.Ytjdfacjfpdfafaa
open Go.RowKit

/-- Nothing is told. -/
def mute (P n now s : Int) : Prop := P = 0 ∨ tmB now = false ∨ now < n ∨ stB s = false

set_option linter.unusedSimpArgs false in
set_option maxHeartbeats 4000000 in
set_option maxRecDepth 100000 in
theorem tickB_no {w : World} {p : Nat} {a P n : Int} (hp : w.heap[p]? = some (.cells (bC a P n) 76 (0, 0))) (now s : Int) (h : mute P n now s) : Calls Try.prog 13 #[pt p, .int .i64 now, .int .u8 s] w fun e w' => e = .returned noF ∧ Below w.heap.size w w' := by
  have I1 := fun W => isTime_any now W
  have I2 := fun W => isState_any s W
  by_cases hP : P = 0
  · subst hP
    have DU := fun (W : World) (h : W.heap[p]? = some (.cells (bC a 0 n) 76 (0, 0))) => due_no h
    clear h I1 I2
    go_enter Try.func13, Try.ntmps13
    go_wp2_with fail
    refine (DU _ (ext11 hp)).mono ?_
    rintro e w1 ⟨rfl, rfl⟩
    go_wp2_with fail
    exact bodyPost_ret (v := noF) (by simp [results, Try.results13, go_sem]) rfl ⟨rfl, (by repeat (first | exact Below.refl _ _ | apply Below.drew | apply Below.al))⟩
  have DU := fun (W : World) (h : W.heap[p]? = some (.cells (bC a P n) 76 (0, 0))) => due_yes h hP
  cases ht : tmB now with
  | false =>
    rw [ht] at I1
    clear h I2
    go_enter Try.func13, Try.ntmps13
    go_wp2_with fail
    refine (DU _ (ext11 hp)).mono ?_
    rintro e w1 ⟨rfl, rfl⟩
    go_wp2_with fail
    refine (I1 _).mono ?_
    rintro e w1 ⟨rfl, rfl⟩
    go_wp2_with fail
    exact bodyPost_ret (v := noF) (by simp [results, Try.results13, go_sem]) rfl ⟨rfl, (by repeat (first | exact Below.refl _ _ | apply Below.drew | apply Below.al))⟩
  | true =>
    rw [ht] at I1
    by_cases hn : now < n
    · clear h I2
      go_enter Try.func13, Try.ntmps13
      go_wp2_with fail
      refine (DU _ (ext11 hp)).mono ?_
      rintro e w1 ⟨rfl, rfl⟩
      go_wp2_with fail
      refine (I1 _).mono ?_
      rintro e w1 ⟨rfl, rfl⟩
      go_wp2_with fail
      exact bodyPost_ret (v := noF) (by simp [results, Try.results13, go_sem]) rfl ⟨rfl, (by repeat (first | exact Below.refl _ _ | apply Below.drew | apply Below.al))⟩
    · have hs : stB s = false := by
        rcases h with h | h | h | h
        · exact absurd h hP
        · rw [ht] at h; cases h
        · exact absurd h hn
        · exact h
      rw [hs] at I2
      clear h hs
      go_enter Try.func13, Try.ntmps13
      go_wp2_with fail
      refine (DU _ (ext11 hp)).mono ?_
      rintro e w1 ⟨rfl, rfl⟩
      go_wp2_with fail
      refine (I1 _).mono ?_
      rintro e w1 ⟨rfl, rfl⟩
      go_wp2_with fail
      refine (I2 _).mono ?_
      rintro e w1 ⟨rfl, rfl⟩
      go_wp2_with fail
      exact bodyPost_ret (v := noF) (by simp [results, Try.results13, go_sem]) rfl ⟨rfl, (by repeat (first | exact Below.refl _ _ | apply Below.drew | apply Below.al))⟩

set_option linter.unusedSimpArgs false in
set_option maxHeartbeats 4000000 in
set_option maxRecDepth 100000 in
theorem tickU_no {w : World} {p : Nat} {a P n : Int} (hp : w.heap[p]? = some (.cells (bC a P n) 43 (0, 0))) (now s : Int) (h : mute P n now s) : Calls Try.prog 14 #[pt p, .int .i64 now, .int .u8 s] w fun e w' => e = .returned noF ∧ Below w.heap.size w w' := by
  have I1 := fun W => time_any now W
  have I2 := fun W => rstate_any s W
  by_cases hP : P = 0
  · subst hP
    have c1 : w.cell? ⟨p, 1, none⟩ = some (.int .i64 0) := by rw [cell_of_row w _ 1 _ _ _ hp]; rfl
    have c2 : w.cell? ⟨p, 2, none⟩ = some (.int .i64 n) := by rw [cell_of_row w _ 2 _ _ _ hp]; rfl
    have lt := lt_of_heap hp
    clear h I1 I2
    clear hp
    go_enter Try.func14, Try.ntmps14
    go_wp2_with fail
    exact bodyPost_ret (v := noF) (by simp [results, Try.results14, go_sem]) rfl ⟨rfl, (by repeat (first | exact Below.refl _ _ | apply Below.drew | apply Below.al))⟩
  have c1 : w.cell? ⟨p, 1, none⟩ = some (.int .i64 P) := by rw [cell_of_row w _ 1 _ _ _ hp]; rfl
  have c2 : w.cell? ⟨p, 2, none⟩ = some (.int .i64 n) := by rw [cell_of_row w _ 2 _ _ _ hp]; rfl
  have lt := lt_of_heap hp
  cases ht : tmB now with
  | false =>
    rw [ht] at I1
    clear h I2
    clear hp
    go_enter Try.func14, Try.ntmps14
    go_wp2_with fail
    refine (I1 _).mono ?_
    rintro e w1 ⟨rfl, rfl⟩
    go_wp2_with fail
    exact bodyPost_ret (v := noF) (by simp [results, Try.results14, go_sem]) rfl ⟨rfl, (by repeat (first | exact Below.refl _ _ | apply Below.drew | apply Below.al))⟩
  | true =>
    rw [ht] at I1
    by_cases hn : now < n
    · clear h I2
      clear hp
      go_enter Try.func14, Try.ntmps14
      go_wp2_with fail
      refine (I1 _).mono ?_
      rintro e w1 ⟨rfl, rfl⟩
      go_wp2_with fail
      exact bodyPost_ret (v := noF) (by simp [results, Try.results14, go_sem]) rfl ⟨rfl, (by repeat (first | exact Below.refl _ _ | apply Below.drew | apply Below.al))⟩
    · have hs : stB s = false := by
        rcases h with h | h | h | h
        · exact absurd h hP
        · rw [ht] at h; cases h
        · exact absurd h hn
        · exact h
      rw [hs] at I2
      clear h hs
      clear hp
      go_enter Try.func14, Try.ntmps14
      go_wp2_with fail
      refine (I1 _).mono ?_
      rintro e w1 ⟨rfl, rfl⟩
      go_wp2_with fail
      refine (I2 _).mono ?_
      rintro e w1 ⟨rfl, rfl⟩
      go_wp2_with fail
      exact bodyPost_ret (v := noF) (by simp [results, Try.results14, go_sem]) rfl ⟨rfl, (by repeat (first | exact Below.refl _ _ | apply Below.drew | apply Below.al))⟩

set_option linter.unusedSimpArgs false in
set_option maxHeartbeats 4000000 in
set_option maxRecDepth 100000 in
theorem tickB_ok {w : World} {p : Nat} {a P n : Int} (hp : w.heap[p]? = some (.cells (bC a P n) 76 (0, 0))) (now s : Int) (ha : 0 ≤ a ∧ a < 256) (hs : 0 ≤ s ∧ s < 256) (hP : ¬ P = 0) (hP1 : 0 ≤ P ∧ P ≤ 1099511627776) (ht : tmB now = true) (hn : ¬ now < n) (h5 : stB s = true) : Calls Try.prog 13 #[pt p, .int .i64 now, .int .u8 s] w fun e w' => e = .returned (.tuple #[beV a s, .bool true]) ∧ w'.heap[p]? = some (.cells (bC a P (now + P)) 76 (0, 0)) ∧ Kp [p] w w' := by
  have I1 := fun W => isTime_any now W
  have I2 := fun W => isState_any s W
  rw [ht] at I1
  rw [h5] at I2
  have hm := tmB_of ht
  have BE := fun W => beat_any a s ha hs W
  have wn : IntKind.i64.wrap (now + P) = now + P := w64 _ (by omega) (by omega)
  have DU := fun (W : World) (h : W.heap[p]? = some (.cells (bC a P n) 76 (0, 0))) => due_yes h hP
  have c1 : w.cell? ⟨p, 1, none⟩ = some (.int .i64 P) := by rw [cell_of_row w _ 1 _ _ _ hp]; rfl
  have c2 : w.cell? ⟨p, 2, none⟩ = some (.int .i64 n) := by rw [cell_of_row w _ 2 _ _ _ hp]; rfl
  have c0 : w.cell? ⟨p, 0, none⟩ = some (.int .u8 a) := by rw [cell_of_row w _ 0 _ _ _ hp]; rfl
  have z2 := froz11 w p 2 _ _ hp
  have lt := lt_of_heap hp
  have HP : Hid (w.heap[p]? = some (.cells (bC a P n) 76 (0, 0))) := hp
  clear ht h5 hm hP1 hp
  go_enter Try.func13, Try.ntmps13
  go_wp2_with fail
  refine (DU _ (ext11 HP.out)).mono ?_
  rintro e w1 ⟨rfl, rfl⟩
  go_wp2_with fail
  refine (I1 _).mono ?_
  rintro e w1 ⟨rfl, rfl⟩
  go_wp2_with fail
  refine (I2 _).mono ?_
  rintro e w1 ⟨rfl, rfl⟩
  go_wp2_with fail
  refine (BE _).mono ?_
  rintro e w1 ⟨rfl, hb⟩
  have gF := blk11 hb (at11 (w.setCell ⟨p, 2, none⟩ (.int .i64 (now + P))) (.cells (frC 0 0 0 0 0 0 0 0 0 0 false) 37) w.heap.size (by simp))
  have PU := put1 HP.out (now + P)
  have gP := blk11 hb (ext11 PU.1)
  have KP : Kp [p] w w1 := PU.2.trans (Kp.of (Below.andThen (Below.al (Below.refl _ _) _) hb))
  have PX : Hid (w1.heap[p]? = some (.cells (bC a P (now + P)) 76 (0, 0)) ∧ Kp [p] w w1) := ⟨gP, KP⟩
  clear hb PU gP KP c0 c1 c2 z2 BE
  go_wp2_with (refine wpList_store_row rfl 37 _ _ rfl w.heap.size (frC (1792 + a) 1 s 0 0 0 0 0 0 0 false) rfl rfl 37 _ gF infoF rfl (frC_one _ _ _ _ _ _ _ _ _ _ _) ?_)
  have hc := fun j => cell_of_row (w1.setRow w.heap.size (frC (1792 + a) 1 s 0 0 0 0 0 0 0 false)) w.heap.size j _ _ _ (setRow_heap _ _ _ _ _ _ gF)
  refine bodyPost_ret (v := .tuple #[beV a s, .bool true]) ?_ rfl ⟨rfl, (setRow_other _ _ _ _ (by omega)).trans PX.out.1, PX.out.2.row _ _ (.inr (Nat.le_refl _))⟩
  simp [results, Try.results13, go_sem, hc]

set_option linter.unusedSimpArgs false in
set_option maxHeartbeats 4000000 in
set_option maxRecDepth 100000 in
theorem tickU_ok {w : World} {p : Nat} {a P n : Int} (hp : w.heap[p]? = some (.cells (bC a P n) 43 (0, 0))) (now s : Int) (ha : 0 ≤ a ∧ a < 256) (_hs : 0 ≤ s ∧ s < 256) (hP : ¬ P = 0) (hP1 : 0 ≤ P ∧ P ≤ 1099511627776) (ht : tmB now = true) (hn : ¬ now < n) (h5 : stB s = true) : Calls Try.prog 14 #[pt p, .int .i64 now, .int .u8 s] w fun e w' => e = .returned (.tuple #[beV a s, .bool true]) ∧ w'.heap[p]? = some (.cells (bC a P (now + P)) 43 (0, 0)) ∧ Kp [p] w w' := by
  have I1 := fun W => time_any now W
  have I2 := fun W => rstate_any s W
  rw [ht] at I1
  rw [h5] at I2
  have hm := tmB_of ht
  have BE := fun W => rbeat_any a s ha W
  have wn : IntKind.i64.wrap (now + P) = now + P := w64 _ (by omega) (by omega)
  have c1 : w.cell? ⟨p, 1, none⟩ = some (.int .i64 P) := by rw [cell_of_row w _ 1 _ _ _ hp]; rfl
  have c2 : w.cell? ⟨p, 2, none⟩ = some (.int .i64 n) := by rw [cell_of_row w _ 2 _ _ _ hp]; rfl
  have c0 : w.cell? ⟨p, 0, none⟩ = some (.int .u8 a) := by rw [cell_of_row w _ 0 _ _ _ hp]; rfl
  have z2 := froz11 w p 2 _ _ hp
  have lt := lt_of_heap hp
  have hz : (P == 0) = false := by simp [hP]
  have hd : decide (now < n) = false := by simp; omega
  have HP : Hid (w.heap[p]? = some (.cells (bC a P n) 43 (0, 0))) := hp
  clear ht h5 hm hP1 hp
  go_enter Try.func14, Try.ntmps14
  go_wp2_with fail
  refine (I1 _).mono ?_
  rintro e w1 ⟨rfl, rfl⟩
  go_wp2_with fail
  refine (I2 _).mono ?_
  rintro e w1 ⟨rfl, rfl⟩
  go_wp2_with fail
  refine (BE _).mono ?_
  rintro e w1 ⟨rfl, hb⟩
  have gF := blk11 hb (at11 (w.setCell ⟨p, 2, none⟩ (.int .i64 (now + P))) (.cells (frC 0 0 0 0 0 0 0 0 0 0 false) 37) w.heap.size (by simp))
  have PU := put1 HP.out (now + P)
  have gP := blk11 hb (ext11 PU.1)
  have KP : Kp [p] w w1 := PU.2.trans (Kp.of (Below.andThen (Below.al (Below.refl _ _) _) hb))
  have PX : Hid (w1.heap[p]? = some (.cells (bC a P (now + P)) 43 (0, 0)) ∧ Kp [p] w w1) := ⟨gP, KP⟩
  clear hb PU gP KP c0 c1 c2 z2 BE
  go_wp2_with (refine wpList_store_row rfl 37 _ _ rfl w.heap.size (frC (1792 + a) 1 s 0 0 0 0 0 0 0 false) rfl rfl 37 _ gF infoF rfl (frC_one _ _ _ _ _ _ _ _ _ _ _) ?_)
  have hc := fun j => cell_of_row (w1.setRow w.heap.size (frC (1792 + a) 1 s 0 0 0 0 0 0 0 false)) w.heap.size j _ _ _ (setRow_heap _ _ _ _ _ _ gF)
  refine bodyPost_ret (v := .tuple #[beV a s, .bool true]) ?_ rfl ⟨rfl, (setRow_other _ _ _ _ (by omega)).trans PX.out.1, PX.out.2.row _ _ (.inr (Nat.le_refl _))⟩
  simp [results, Try.results14, go_sem, hc]
#print axioms tickB_no
end Go.Proofs.Ytjdfacjfpdfafaa
