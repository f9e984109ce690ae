/-
  The walk of readCommand, over any table.
-/
import Derived.Test.YtimnpdegoehblaaGreatDoorSf3
import Derived.Test.YtimnpdegoehblaaGreatDoorSu
namespace Go.Proofs.YtimnpdegoehblaaGreatDoor
open Go.RowKit

set_option linter.unusedSimpArgs false in
set_option maxHeartbeats 4000000 in
set_option maxRecDepth 100000 in
theorem readCommand_any (tab : List Ln) (g : Nat) (b0 b1 b2 b3 b4 b5 b6 b7 : Int) (w : World) (hT : IsT w g tab) (hn : tab.length ≤ 20) (R : Cm)
    (hF : ∀ j (hj : j < tab.length), ∀ args W, (callFunc tab[j].rf args).run Tryz.prog W = .ok (.enter tab[j].rf args) W)
    (hHit : ∀ j (hj : j < tab.length), bits .andNot .u8 b0 tab[j].vary = tab[j].first → (∀ j' (_ : j' < tab.length), j' < j → bits .andNot .u8 b0 tab[j'].vary ≠ tab[j'].first) → ∃ x : Cm, R = { x with k := tab[j].kind } ∧ ∀ W, Below w.heap.size w W → Calls Tryz.prog tab[j].rf #[arr8 b0 b1 b2 b3 b4 b5 b6 b7] W (RPost W x))
    (hMiss : (∀ j' (_ : j' < tab.length), bits .andNot .u8 b0 tab[j'].vary ≠ tab[j'].first) → R = ⟨0, 0, 0, false, 0, false, [], false, false, false, 0, 0, 0, 0, 0⟩) :
    Calls Tryz.prog 59 #[.slice (some ⟨g, 0, none⟩) tab.length tab.length, arr8 b0 b1 b2 b3 b4 b5 b6 b7] w (RPost w R) := by
  have HH : Hid (∀ j (hj : j < tab.length), bits .andNot .u8 b0 tab[j].vary = tab[j].first → (∀ j' (_ : j' < tab.length), j' < j → bits .andNot .u8 b0 tab[j'].vary ≠ tab[j'].first) → ∃ x : Cm, R = { x with k := tab[j].kind } ∧ ∀ W, Below w.heap.size w W → Calls Tryz.prog tab[j].rf #[arr8 b0 b1 b2 b3 b4 b5 b6 b7] W (RPost W x)) := hHit
  have HM : Hid ((∀ j' (_ : j' < tab.length), bits .andNot .u8 b0 tab[j'].vary ≠ tab[j'].first) → R = ⟨0, 0, 0, false, 0, false, [], false, false, false, 0, 0, 0, 0, 0⟩) := hMiss
  have HT : Hid (IsT w g tab) := hT
  have HF : Hid (∀ j (hj : j < tab.length), ∀ args W, (callFunc tab[j].rf args).run Tryz.prog W = .ok (.enter tab[j].rf args) W) := hF
  clear hHit hMiss hT hF
  obtain ⟨N, HN⟩ : ∃ N, Hid (tab.length = N) := ⟨_, rfl⟩
  rw [HN.out] at hn ⊢
  go_enter Tryz.func59, Tryz.ntmps59
  go_wp2_with fail
  go_loopw [10] (fun iv wr => ∃ j : Nat, iv = .int .i64 (j : Int) ∧ j ≤ N ∧ Hid (∀ j' (_ : j' < tab.length), j' < j → bits .andNot .u8 b0 tab[j'].vary ≠ tab[j'].first) ∧ Below ((w.alloc (.cells (ar8 b0 b1 b2 b3 b4 b5 b6 b7) 23)).alloc (.cells (cmC 0 0 0 false 0 false none 0 0 false false false 0 0 0 0 0) 61)).heap.size ((w.alloc (.cells (ar8 b0 b1 b2 b3 b4 b5 b6 b7) 23)).alloc (.cells (cmC 0 0 0 false 0 false none 0 0 false false false 0 0 0 0 0) 61)) wr) (fun iv _ => N - (intOf iv).toNat)
  case atStart => exact ⟨0, rfl, by omega, fun j' _ h => absurd h (by omega), Below.refl _ _⟩
  case round =>
    obtain ⟨j, rfl, hj, hall, hb⟩ := hrel
    have B1 : Below w.heap.size w wr := Below.andThen (by repeat (first | exact Below.refl _ _ | apply Below.drew | apply Below.al)) hb
    have hbx : wr.heap[w.heap.size]? = some (.cells (ar8 b0 b1 b2 b3 b4 b5 b6 b7) 23 (0, 0)) := (hb.block _ (by first | (simp; done) | (simp; omega))).trans (by repeat (first | exact heap_at _ _ _ (by simp) | rw [heap_drew] | rw [Below.heap_alloc _ _ _ (by first | (simp; done) | (simp; omega))]))
    have hrs : wr.heap[w.heap.size + 1]? = some (.cells (cmC 0 0 0 false 0 false none 0 0 false false false 0 0 0 0 0) 61 (0, 0)) := (hb.block _ (by simp)).trans (by repeat (first | exact heap_at _ _ _ (by simp) | rw [heap_drew] | rw [Below.heap_alloc _ _ _ (by first | (simp; done) | (simp; omega))]))
    have HBX : Hid (wr.heap[w.heap.size]? = some (.cells (ar8 b0 b1 b2 b3 b4 b5 b6 b7) 23 (0, 0))) := hbx
    have HRS : Hid (wr.heap[w.heap.size + 1]? = some (.cells (cmC 0 0 0 false 0 false none 0 0 false false false 0 0 0 0 0) 61 (0, 0))) := hrs
    have HB : Hid (Below ((w.alloc (.cells (ar8 b0 b1 b2 b3 b4 b5 b6 b7) 23)).alloc (.cells (cmC 0 0 0 false 0 false none 0 0 false false false 0 0 0 0 0) 61)).heap.size ((w.alloc (.cells (ar8 b0 b1 b2 b3 b4 b5 b6 b7) 23)).alloc (.cells (cmC 0 0 0 false 0 false none 0 0 false false false 0 0 0 0 0) 61)) wr) := hb
    have HB1 : Hid (Below w.heap.size w wr) := B1
    have d0 : wr.cell? ⟨w.heap.size, 0, none⟩ = some (.int .u8 b0) := by rw [cell_of_row wr _ 0 _ _ _ hbx]; rfl
    have d1 : wr.cell? ⟨w.heap.size, 1, none⟩ = some (.int .u8 b1) := by rw [cell_of_row wr _ 1 _ _ _ hbx]; rfl
    have d2 : wr.cell? ⟨w.heap.size, 2, none⟩ = some (.int .u8 b2) := by rw [cell_of_row wr _ 2 _ _ _ hbx]; rfl
    have d3 : wr.cell? ⟨w.heap.size, 3, none⟩ = some (.int .u8 b3) := by rw [cell_of_row wr _ 3 _ _ _ hbx]; rfl
    have d4 : wr.cell? ⟨w.heap.size, 4, none⟩ = some (.int .u8 b4) := by rw [cell_of_row wr _ 4 _ _ _ hbx]; rfl
    have d5 : wr.cell? ⟨w.heap.size, 5, none⟩ = some (.int .u8 b5) := by rw [cell_of_row wr _ 5 _ _ _ hbx]; rfl
    have d6 : wr.cell? ⟨w.heap.size, 6, none⟩ = some (.int .u8 b6) := by rw [cell_of_row wr _ 6 _ _ _ hbx]; rfl
    have d7 : wr.cell? ⟨w.heap.size, 7, none⟩ = some (.int .u8 b7) := by rw [cell_of_row wr _ 7 _ _ _ hbx]; rfl
    have sz : w.heap.size < wr.heap.size := (Array.getElem?_eq_some_iff.1 hbx).1
    have sz1 : w.heap.size + 1 < wr.heap.size := (Array.getElem?_eq_some_iff.1 hrs).1
    clear hb hbx hrs
    by_cases hlt : j < N
    · have hlt' : (j : Int) < (N : Int) := by omega
      have hj2 : j < tab.length := by have := HN.out; omega
      have hT := HT.out.next B1
      obtain ⟨kd, fs, vy, wf, rf, hl⟩ : ∃ kd fs vy wf rf, tab[j] = ⟨kd, fs, vy, wf, rf⟩ := ⟨_, _, _, _, _, rfl⟩
      have c0 := hT.at j 0 (.int .u8 kd) hj2 (by decide) (by rw [hl]; rfl)
      have c1 := hT.at j 1 (.int .u8 fs) hj2 (by decide) (by rw [hl]; rfl)
      have c2 := hT.at j 2 (.int .u8 vy) hj2 (by decide) (by rw [hl]; rfl)
      have c3 := hT.at j 3 (.func (.func wf) #[] #[]) hj2 (by decide) (by rw [hl]; rfl)
      have c4 := hT.at j 4 (.func (.func rf) #[] #[]) hj2 (by decide) (by rw [hl]; rfl)
      rw [Nat.add_zero] at c0
      have HG := HH.out j hj2
      rw [hl] at HG
      have hcf := HF.out j hj2
      rw [hl] at hcf
      dsimp only at hcf HG
      have hgl : g < w.heap.size := HT.out.lt
      have HG2 : Hid (bits .andNot .u8 b0 vy = fs → (∀ j' (_ : j' < tab.length), j' < j → bits .andNot .u8 b0 tab[j'].vary ≠ tab[j'].first) → ∃ x : Cm, R = { x with k := kd } ∧ ∀ W, Below w.heap.size w W → Calls Tryz.prog rf #[arr8 b0 b1 b2 b3 b4 b5 b6 b7] W (RPost W x)) := HG
      have HKD : Hid (¬ bits .andNot .u8 b0 vy = fs → bits .andNot .u8 b0 tab[j].vary ≠ tab[j].first) := by show _ → _; rw [hl]; exact id
      clear hT hl HG B1
      have s3 := fun m => st_fn3 wr kd fs vy wf m
      have s4 := fun m => st_fn4 wr kd fs vy wf rf m
      by_cases hk : bits .andNot .u8 b0 vy = fs
      · obtain ⟨x, hR, hx⟩ := HG2.out hk hall.out
        subst hR
        have HC2 : Hid (∀ W, Below w.heap.size w W → Calls Tryz.prog rf #[arr8 b0 b1 b2 b3 b4 b5 b6 b7] W (RPost W x)) := hx
        clear HG2 hx HH HM HF
        have hk' : (bits .andNot .u8 b0 vy == fs) = true := by simpa using hk
        go_wp2_with fail
        with_reducible refine (HC2.out _ (Below.al HB1.out _)).mono ?_
        rintro r w1 ⟨a, cap, rfl, ht, hb1⟩
        obtain ⟨k0, i, s, z, n, q, d, t, l, c, b, e, u, m, o⟩ := x
        dsimp only at ht ⊢
        obtain ⟨len, HL⟩ : ∃ len, Hid (d.length = len) := ⟨_, rfl⟩
        rw [HL.out] at ht ⊢
        have hln : w1.heap[wr.heap.size]? = some (.cells #[.int .u8 kd, .int .u8 fs, .int .u8 vy, .func (.func wf) #[] #[], .func (.func rf) #[] #[]] 105 (0, 0)) := (hb1.block _ (by simp)).trans (heap_new _ _)
        have lk : w1.cell? ⟨wr.heap.size, 0, none⟩ = some (.int .u8 kd) := by rw [cell_of_row w1 _ 0 _ _ _ hln]; rfl
        have szl : wr.heap.size < w1.heap.size := (Array.getElem?_eq_some_iff.1 hln).1
        have hrs1 : w1.heap[w.heap.size + 1]? = some (.cells (cmC 0 0 0 false 0 false none 0 0 false false false 0 0 0 0 0) 61 (0, 0)) := (hb1.block _ (by simp; omega)).trans ((Below.heap_alloc _ _ _ sz1).trans HRS.out)
        have B2 : Hid (Below w.heap.size w w1) := Below.andThen (Below.al HB1.out _) hb1
        have HTD : Hid (Told (wr.alloc (.cells #[.int .u8 kd, .int .u8 fs, .int .u8 vy, .func (.func wf) #[] #[], .func (.func rf) #[] #[]] 105)) w1 a len cap d) := ht
        have hrs2 : (w1.alloc (.cells (cmC kd i s z n q a len cap t l c b e u m o) 61)).heap[w.heap.size + 1]? = some (.cells (cmC 0 0 0 false 0 false none 0 0 false false false 0 0 0 0 0) 61 (0, 0)) := (Below.heap_alloc _ _ _ (by omega)).trans hrs1
        clear hln hrs1 ht hb1 HC2
        go_wp2_with (refine wpList_store_by rfl 61 _ _ rfl _ _ rfl rfl (storeCM (w1.alloc (.cells (cmC kd i s z n q a len cap t l c b e u m o) 61)) (w.heap.size + 1) _ kd i s z n q a len cap t l c b e u m o _ hrs2 rfl) ?_)
        have hc := fun j => cell_of_row ((w1.alloc (.cells (cmC kd i s z n q a len cap t l c b e u m o) 61)).setRow (w.heap.size + 1) (cmC kd i s z n q a len cap t l c b e u m o)) (w.heap.size + 1) j _ _ _ (setRow_heap _ _ _ _ _ _ hrs2)
        refine bodyPost_ret (v := cmV kd i s z n q a len cap t l c b e u m o) ?_ rfl ⟨a, cap, ?_, ?_, below_setRow (Below.al B2.out _) (Nat.le_succ _) _⟩
        · simp [results, Tryz.results59, go_sem, hc]
        · show _ = Ending.returned (cmV _ _ _ _ _ _ _ _ _ _ _ _ _ _ _ _ _)
          dsimp only
          rw [HL.out]
        · show Told _ _ _ _ _ _
          dsimp only
          rw [HL.out]
          have h9 := HTD.out
          refine ⟨⟨h9.row.size, h9.row.oct, fun hp => ?_⟩, h9.le, h9.max, fun hp => ?_⟩
          · obtain ⟨gg, rfl, hgg, _⟩ := h9.own hp
            obtain ⟨b, off, e9, hcc⟩ := h9.row.at_ hp
            cases e9
            have hlt9 := block_lt_of_cell (hcc 0 hp)
            simp at hgg
            exact ⟨_, 0, rfl, fun i hi => (World.cell?_of_block (w := w1) (a := ⟨gg, 0 + i, none⟩) ((setRow_other _ _ _ _ (by show gg ≠ _; omega)).trans (Below.heap_alloc _ _ _ hlt9))).trans (hcc i hi)⟩
          · obtain ⟨gg, e9, hgg, hz⟩ := h9.own hp
            obtain ⟨b, off, e10, hcc⟩ := h9.row.at_ hp
            rw [e9] at e10
            cases e10
            have hlt9 := block_lt_of_cell (hcc 0 hp)
            simp at hgg
            exact ⟨gg, e9, by omega, fun i hi => (World.frozen?_of_block (w := w1) (a := ⟨gg, i, none⟩) ((setRow_other _ _ _ _ (by show gg ≠ _; omega)).trans (Below.heap_alloc _ _ _ hlt9))).trans (hz i hi)⟩
      · have hk' : (bits .andNot .u8 b0 vy == fs) = false := by simpa using hk
        clear HG2 HH HM HF
        go_wp2_with fail
        exact ⟨⟨j + 1, by go_num, by omega, fun j' h1 h2 => by
          by_cases e : j' = j
          · subst e; exact HKD.out hk
          · exact hall.out j' h1 (by omega), Below.al HB.out _⟩, by simp [intOf]; omega⟩
    · obtain rfl : j = N := by omega
      have HR := HM.out fun j' hj' => hall.out j' hj' (by have := HN.out; omega)
      subst HR
      clear hall HH HM HT HF B1
      have nl : ¬ (j : Int) < (j : Int) := by omega
      have hrs := HRS.out
      go_wp2_with (refine wpList_store_by rfl 61 _ _ rfl _ _ rfl rfl (storeCM wr (w.heap.size + 1) _ 0 0 0 false 0 false none 0 0 false false false 0 0 0 0 0 _ hrs rfl) ?_)
      have hc := fun j => cell_of_row (wr.setRow (w.heap.size + 1) (cmC 0 0 0 false 0 false none 0 0 false false false 0 0 0 0 0)) (w.heap.size + 1) j _ _ _ (setRow_heap _ _ _ _ _ _ hrs)
      refine bodyPost_ret (v := cmV 0 0 0 false 0 false none 0 0 false false false 0 0 0 0 0) ?_ rfl ⟨none, 0, rfl, told_nil _ _, below_setRow HB1.out (Nat.le_succ _) _⟩
      simp [results, Tryz.results59, go_sem, hc]
#print axioms readCommand_any
end Go.Proofs.YtimnpdegoehblaaGreatDoor
