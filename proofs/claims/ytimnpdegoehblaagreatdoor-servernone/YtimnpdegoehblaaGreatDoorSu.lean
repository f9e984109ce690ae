/-
  The walk of bytesOf, over any table.
-/
import Derived.Test.YtimnpdegoehblaaGreatDoorSt
import Derived.Test.YtimnpdegoehblaaGreatDoorSd
import Derived.Deep.LoopGhost
import Derived.Recover
import Derived.Defers
namespace Go.Proofs.YtimnpdegoehblaaGreatDoor
open Go.RowKit

theorem flat_at : ∀ (tab : List Ln) (j t : Nat) (h : j < tab.length) (_ : t < 5), (tab.flatMap Ln.c)[j * 5 + t]? = (tab[j].c)[t]?
  | [], j, t, h, _ => absurd h (by simp)
  | l :: r, 0, t, _, ht => by
    simp only [List.flatMap_cons, Nat.zero_mul, Nat.zero_add, List.getElem_cons_zero]
    rw [List.getElem?_append_left (by simp [Ln.c]; exact ht)]
  | l :: r, j + 1, t, h, ht => by
    simp only [List.flatMap_cons, List.getElem_cons_succ]
    rw [List.getElem?_append_right (by simp [Ln.c]; omega), ← flat_at r j t (by simpa using h) ht]
    congr 1
    simp [Ln.c]; omega
theorem IsT.at {w : World} {g : Nat} {tab : List Ln} (h : IsT w g tab) (j t : Nat) (v : Value) (hj : j < tab.length) (ht : t < 5) (hv : (tab[j].c)[t]? = some v) : w.cell? ⟨g, j * 5 + t, none⟩ = some v := by
  rw [cell_of_row w g (j * 5 + t) _ _ _ h, List.getElem?_toArray, flat_at tab j t hj ht]
  exact hv
theorem IsT.next {w w' : World} {g : Nat} {tab : List Ln} (h : IsT w g tab) (hb : Below w.heap.size w w') : IsT w' g tab := (hb.block g (Array.getElem?_eq_some_iff.1 h).1).trans h
theorem IsT.lt {w : World} {g : Nat} {tab : List Ln} (h : IsT w g tab) : g < w.heap.size := (Array.getElem?_eq_some_iff.1 h).1

theorem st_fn3 (w : World) (a b c : Int) (f : Nat) (m : Mode) : (store ⟨w.heap.size, 3, none⟩ (.func (.func f) #[] #[]) m).run Tryz.prog (w.alloc (.cells #[.int .u8 a, .int .u8 b, .int .u8 c, .nilFunc, .nilFunc] 105)) = .ok () (w.alloc (.cells #[.int .u8 a, .int .u8 b, .int .u8 c, .func (.func f) #[] #[], .nilFunc] 105)) := by
  rw [run_store _ _ _ _ _ rfl]
  simp [go_sem]
theorem st_fn4 (w : World) (a b c : Int) (f g : Nat) (m : Mode) : (store ⟨w.heap.size, 4, none⟩ (.func (.func g) #[] #[]) m).run Tryz.prog (w.alloc (.cells #[.int .u8 a, .int .u8 b, .int .u8 c, .func (.func f) #[] #[], .nilFunc] 105)) = .ok () (w.alloc (.cells #[.int .u8 a, .int .u8 b, .int .u8 c, .func (.func f) #[] #[], .func (.func g) #[] #[]] 105)) := by
  rw [run_store _ _ _ _ _ rfl]
  simp [go_sem]

/-- What bytesOf tells. -/
def BPost (w : World) : Option B8 → Ending → World → Prop
  | some b, r, w' => r = .returned (.tuple #[b.v, .int .i64 0]) ∧ Below w.heap.size w w'
  | none, r, w' => r = .returned (.tuple #[arr8 0 0 0 0 0 0 0 0, .int .i64 2]) ∧ Below w.heap.size w w'

theorem ta_nil (w : World) : (Instr.typeAssert .nilIface 20 52 true).run Tryz.prog w = .ok (.tuple #[.int .i64 0, .bool false]) w := by kernel_rfl
theorem ta_bad (w : World) : (Instr.typeAssert (.iface 52 (.int .i64 2)) 20 52 true).run Tryz.prog w = .ok (.tuple #[.int .i64 2, .bool true]) w := by kernel_rfl

set_option linter.unusedSimpArgs false in
set_option maxHeartbeats 4000000 in
set_option maxRecDepth 100000 in
theorem catch_idle (p q : Addr) (w : World) :
    CallsD Tryz.prog 96 #[.pointer (some p), .pointer (some q)] .returning w fun e u' w' => e = .returned (.tuple #[]) ∧ u' = .returning ∧ w' = w := by
  refine callsD_of_wpS Tryz.func96 rfl fun c₀ cs hu => ?_
  apply wpS_seq
  apply wpS_region
  simp [wpOpsS, go_sem, recoverD, hu, Tryz.ntmps96, Exit.thenS, ta_nil]
  apply wpS_seq
  apply wpS_region
  simp [wpOpsS, go_sem, Exit.thenS]
  refine wpS_cond (t := false) (by simp [Act.eval, Array.replicate]) ?_
  simp only [Bool.false_eq_true, if_false]
  refine wpS_of_wp (wp_skip ?_)
  cases c₀
  simp_all [bodyPostS, results, Tryz.results96]
theorem set_same (w : World) (B j : Nat) (v : Value) (C : Array Value) (T : TypeId) (h : w.heap[B]? = some (.cells C T (0, 0))) (hv : C.setIfInBounds j v = C) : w.setCell ⟨B, j, none⟩ v = w := by
  have hh : (w.setCell ⟨B, j, none⟩ v).heap = w.heap := by
    apply Array.ext_getElem?
    intro i
    by_cases e : i = B
    · subst e
      rw [heap_setCell_same w i j _ _ _ h, h]
      first | (rw [hv]; done) | (simp [hv])
    · exact Below.heap_setCell _ _ _ _ e
  cases w
  simp only [World.setCell] at hh ⊢
  congr 1
set_option linter.unusedSimpArgs false in
set_option maxHeartbeats 4000000 in
set_option maxRecDepth 100000 in
theorem catch_panicking (B q : Nat) (y : Value) (w : World) (hs : w.heap[B]? = some (.cells (ar8 0 0 0 0 0 0 0 0) 23 (0, 0))) (hq : w.cell? ⟨q, 0, none⟩ = some y) (zq : w.frozen? ⟨q, 0, none⟩ = false) :
    CallsD Tryz.prog 96 #[.pointer (some ⟨B, 0, none⟩), .pointer (some ⟨q, 0, none⟩)] (.panicking bad) w fun e u' w' =>
      e = .returned (.tuple #[]) ∧ (∃ v, u' = .panicking [{ v := v, recovered := true }]) ∧ w' = (w.setCell ⟨q, 0, none⟩ (.int .i64 2)) := by
  have c0 : w.cell? ⟨B, 0, none⟩ = some (.int .u8 0) := by rw [cell_of_row w B 0 _ _ _ hs]; rfl
  have z0 : w.frozen? ⟨B, 0, none⟩ = false := frozen_of_row w B 0 _ _ hs
  have s0 : w.setCell ⟨B, 0, none⟩ (.int .u8 0) = w := set_same w B 0 _ _ _ hs rfl
  have c1 : w.cell? ⟨B, 1, none⟩ = some (.int .u8 0) := by rw [cell_of_row w B 1 _ _ _ hs]; rfl
  have z1 : w.frozen? ⟨B, 1, none⟩ = false := frozen_of_row w B 1 _ _ hs
  have s1 : w.setCell ⟨B, 1, none⟩ (.int .u8 0) = w := set_same w B 1 _ _ _ hs rfl
  have c2 : w.cell? ⟨B, 2, none⟩ = some (.int .u8 0) := by rw [cell_of_row w B 2 _ _ _ hs]; rfl
  have z2 : w.frozen? ⟨B, 2, none⟩ = false := frozen_of_row w B 2 _ _ hs
  have s2 : w.setCell ⟨B, 2, none⟩ (.int .u8 0) = w := set_same w B 2 _ _ _ hs rfl
  have c3 : w.cell? ⟨B, 3, none⟩ = some (.int .u8 0) := by rw [cell_of_row w B 3 _ _ _ hs]; rfl
  have z3 : w.frozen? ⟨B, 3, none⟩ = false := frozen_of_row w B 3 _ _ hs
  have s3 : w.setCell ⟨B, 3, none⟩ (.int .u8 0) = w := set_same w B 3 _ _ _ hs rfl
  have c4 : w.cell? ⟨B, 4, none⟩ = some (.int .u8 0) := by rw [cell_of_row w B 4 _ _ _ hs]; rfl
  have z4 : w.frozen? ⟨B, 4, none⟩ = false := frozen_of_row w B 4 _ _ hs
  have s4 : w.setCell ⟨B, 4, none⟩ (.int .u8 0) = w := set_same w B 4 _ _ _ hs rfl
  have c5 : w.cell? ⟨B, 5, none⟩ = some (.int .u8 0) := by rw [cell_of_row w B 5 _ _ _ hs]; rfl
  have z5 : w.frozen? ⟨B, 5, none⟩ = false := frozen_of_row w B 5 _ _ hs
  have s5 : w.setCell ⟨B, 5, none⟩ (.int .u8 0) = w := set_same w B 5 _ _ _ hs rfl
  have c6 : w.cell? ⟨B, 6, none⟩ = some (.int .u8 0) := by rw [cell_of_row w B 6 _ _ _ hs]; rfl
  have z6 : w.frozen? ⟨B, 6, none⟩ = false := frozen_of_row w B 6 _ _ hs
  have s6 : w.setCell ⟨B, 6, none⟩ (.int .u8 0) = w := set_same w B 6 _ _ _ hs rfl
  have c7 : w.cell? ⟨B, 7, none⟩ = some (.int .u8 0) := by rw [cell_of_row w B 7 _ _ _ hs]; rfl
  have z7 : w.frozen? ⟨B, 7, none⟩ = false := frozen_of_row w B 7 _ _ hs
  have s7 : w.setCell ⟨B, 7, none⟩ (.int .u8 0) = w := set_same w B 7 _ _ _ hs rfl
  refine callsD_of_wpS Tryz.func96 rfl fun c₀ cs hu => ?_
  apply wpS_seq
  apply wpS_region
  simp [wpOpsS, go_sem, recoverD, hu, bad, Tryz.ntmps96, Exit.thenS, ta_bad]
  apply wpS_seq
  apply wpS_region
  simp [wpOpsS, go_sem, Exit.thenS]
  refine wpS_cond (t := true) (by simp [Act.eval, Array.replicate]) ?_
  simp only [if_true]
  apply wpS_region
  simp [wpOpsS, go_sem, c0, z0, s0, c1, z1, s1, c2, z2, s2, c3, z3, s3, c4, z4, s4, c5, z5, s5, c6, z6, s6, c7, z7, s7, hq, zq, bodyPostS, results, Tryz.results96]
#print axioms catch_idle
#print axioms catch_panicking

set_option linter.unusedSimpArgs false in
set_option maxHeartbeats 4000000 in
set_option maxRecDepth 100000 in
theorem bytesOf_any (tab : List Ln) (g : Nat) (k i s : Int) (z : Bool) (n : Int) (q : Bool) (a : Option Addr) (len cap : Nat) (t l c : Bool) (b e u m o : Int) (w : World) (hT : IsT w g tab) (hn : tab.length ≤ 20) (R : Option B8)
    (hF : ∀ j (hj : j < tab.length), ∀ args W, (callFunc tab[j].wf args).run Tryz.prog W = .ok (.enter tab[j].wf args) W)
    (hHit : ∀ j (hj : j < tab.length), tab[j].kind = k → (∀ j' (_ : j' < tab.length), j' < j → tab[j'].kind ≠ k) → ∀ W, Below w.heap.size w W → Calls Tryz.prog tab[j].wf #[arr8 tab[j].first 0 0 0 0 0 0 0, cmV k i s z n q a len cap t l c b e u m o] W (WPost W R))
    (hMiss : (∀ j (hj : j < tab.length), tab[j].kind ≠ k) → R = none) :
    Calls Tryz.prog 56 #[.slice (some ⟨g, 0, none⟩) tab.length tab.length, cmV k i s z n q a len cap t l c b e u m o] w (BPost w R) := by
  have hmf : ∀ (fn : Fn) (first cap : Array Value) (w : World), (Instr.makeFunc fn first cap).run Tryz.prog w = .ok (.func fn first cap) w := fun _ _ _ _ => rfl
  have HH : Hid (∀ j (hj : j < tab.length), tab[j].kind = k → (∀ j' (_ : j' < tab.length), j' < j → tab[j'].kind ≠ k) → ∀ W, Below w.heap.size w W → Calls Tryz.prog tab[j].wf #[arr8 tab[j].first 0 0 0 0 0 0 0, cmV k i s z n q a len cap t l c b e u m o] W (WPost W R)) := hHit
  have HM : Hid ((∀ j (hj : j < tab.length), tab[j].kind ≠ k) → R = none) := hMiss
  have HT : Hid (IsT w g tab) := hT
  have HF : Hid (∀ j (hj : j < tab.length), ∀ args W, (callFunc tab[j].wf args).run Tryz.prog W = .ok (.enter tab[j].wf args) W) := hF
  clear hHit hMiss hT hF
  obtain ⟨N, HN⟩ : ∃ N, Hid (tab.length = N) := ⟨_, rfl⟩
  rw [HN.out] at hn ⊢
  go_enter_defers Tryz.func56, Tryz.ntmps56
  go_wp2_with fail
  go_loopw [11] (fun iv wr => ∃ j : Nat, iv = .int .i64 (j : Int) ∧ j ≤ N ∧ Hid (∀ j' (_ : j' < tab.length), j' < j → tab[j'].kind ≠ k) ∧ Below (((w.alloc (.cells (cmC k i s z n q a len cap t l c b e u m o) 61)).alloc (.cells (ar8 0 0 0 0 0 0 0 0) 23)).alloc (.cells #[.int .i64 0] 52)).heap.size (((w.alloc (.cells (cmC k i s z n q a len cap t l c b e u m o) 61)).alloc (.cells (ar8 0 0 0 0 0 0 0 0) 23)).alloc (.cells #[.int .i64 0] 52)) wr) (fun iv _ => N - (intOf iv).toNat)
  case atStart => exact ⟨0, rfl, by omega, fun j' _ h => absurd h (by omega), Below.refl _ _⟩
  case round =>
    obtain ⟨j, rfl, hj, hall, hb⟩ := hrel
    by_cases hlt : j < N
    · have hlt' : (j : Int) < (N : Int) := by omega
      have hj2 : j < tab.length := by have := HN.out; omega
      have B0 : Below w.heap.size w (((w.alloc (.cells (cmC k i s z n q a len cap t l c b e u m o) 61)).alloc (.cells (ar8 0 0 0 0 0 0 0 0) 23)).alloc (.cells #[.int .i64 0] 52)) := (by repeat (first | exact Below.refl _ _ | apply Below.drew | apply Below.al))
      have B1 : Below w.heap.size w wr := Below.andThen B0 hb
      have hT := HT.out.next B1
      obtain ⟨kd, fs, vy, wf, rf, hl⟩ : ∃ kd fs vy wf rf, tab[j] = ⟨kd, fs, vy, wf, rf⟩ := ⟨_, _, _, _, _, rfl⟩
      have c0 := hT.at j 0 (.int .u8 kd) hj2 (by decide) (by rw [hl]; rfl)
      have c1 := hT.at j 1 (.int .u8 fs) hj2 (by decide) (by rw [hl]; rfl)
      have c2 := hT.at j 2 (.int .u8 vy) hj2 (by decide) (by rw [hl]; rfl)
      have c3 := hT.at j 3 (.func (.func wf) #[] #[]) hj2 (by decide) (by rw [hl]; rfl)
      have c4 := hT.at j 4 (.func (.func rf) #[] #[]) hj2 (by decide) (by rw [hl]; rfl)
      rw [Nat.add_zero] at c0
      have HG := HH.out j hj2
      rw [hl] at HG
      have hcf := HF.out j hj2
      rw [hl] at hcf
      dsimp only at hcf
      have hgl : g < w.heap.size := HT.out.lt
      have HG2 : Hid (kd = k → (∀ j' (_ : j' < tab.length), j' < j → tab[j'].kind ≠ k) → ∀ W, Below w.heap.size w W → Calls Tryz.prog wf #[arr8 fs 0 0 0 0 0 0 0, cmV k i s z n q a len cap t l c b e u m o] W (WPost W R)) := HG
      have HKD : Hid (tab[j].kind = kd) := by show _ = _; rw [hl]
      have HB : Hid (Below (((w.alloc (.cells (cmC k i s z n q a len cap t l c b e u m o) 61)).alloc (.cells (ar8 0 0 0 0 0 0 0 0) 23)).alloc (.cells #[.int .i64 0] 52)).heap.size (((w.alloc (.cells (cmC k i s z n q a len cap t l c b e u m o) 61)).alloc (.cells (ar8 0 0 0 0 0 0 0 0) 23)).alloc (.cells #[.int .i64 0] 52)) wr) := hb
      have HB1 : Hid (Below w.heap.size w wr) := B1
      have hbox : wr.heap[w.heap.size]? = some (.cells (cmC k i s z n q a len cap t l c b e u m o) 61 (0, 0)) := (hb.block _ (by first | (simp; done) | (simp; omega))).trans (by
        rw [Below.heap_alloc _ _ _ (by simp; omega), Below.heap_alloc _ _ _ (by simp)]; exact heap_new _ _)
      have k0 : wr.cell? ⟨w.heap.size, 0, none⟩ = some (.int .u8 k) := by rw [cell_of_row wr _ 0 _ _ _ hbox]; rfl
      have k1 : wr.cell? ⟨w.heap.size, 1, none⟩ = some (.int .u16 i) := by rw [cell_of_row wr _ 1 _ _ _ hbox]; rfl
      have k2 : wr.cell? ⟨w.heap.size, 2, none⟩ = some (.int .u8 s) := by rw [cell_of_row wr _ 2 _ _ _ hbox]; rfl
      have k3 : wr.cell? ⟨w.heap.size, 3, none⟩ = some (.bool z) := by rw [cell_of_row wr _ 3 _ _ _ hbox]; rfl
      have k4 : wr.cell? ⟨w.heap.size, 4, none⟩ = some (.int .u32 n) := by rw [cell_of_row wr _ 4 _ _ _ hbox]; rfl
      have k5 : wr.cell? ⟨w.heap.size, 5, none⟩ = some (.bool q) := by rw [cell_of_row wr _ 5 _ _ _ hbox]; rfl
      have k6 : wr.cell? ⟨w.heap.size, 6, none⟩ = some (.slice a len cap) := by rw [cell_of_row wr _ 6 _ _ _ hbox]; rfl
      have k7 : wr.cell? ⟨w.heap.size, 7, none⟩ = some (.bool t) := by rw [cell_of_row wr _ 7 _ _ _ hbox]; rfl
      have k8 : wr.cell? ⟨w.heap.size, 8, none⟩ = some (.bool l) := by rw [cell_of_row wr _ 8 _ _ _ hbox]; rfl
      have k9 : wr.cell? ⟨w.heap.size, 9, none⟩ = some (.bool c) := by rw [cell_of_row wr _ 9 _ _ _ hbox]; rfl
      have k10 : wr.cell? ⟨w.heap.size, 10, none⟩ = some (.int .i64 b) := by rw [cell_of_row wr _ 10 _ _ _ hbox]; rfl
      have k11 : wr.cell? ⟨w.heap.size, 11, none⟩ = some (.int .i64 e) := by rw [cell_of_row wr _ 11 _ _ _ hbox]; rfl
      have k12 : wr.cell? ⟨w.heap.size, 12, none⟩ = some (.int .u16 u) := by rw [cell_of_row wr _ 12 _ _ _ hbox]; rfl
      have k13 : wr.cell? ⟨w.heap.size, 13, none⟩ = some (.int .i64 m) := by rw [cell_of_row wr _ 13 _ _ _ hbox]; rfl
      have k14 : wr.cell? ⟨w.heap.size, 14, none⟩ = some (.int .u32 o) := by rw [cell_of_row wr _ 14 _ _ _ hbox]; rfl
      have sz : w.heap.size < wr.heap.size := (Array.getElem?_eq_some_iff.1 hbox).1
      clear hT hl HG hb B1 B0
      have s3 := fun m => st_fn3 wr kd fs vy wf m
      have s4 := fun m => st_fn4 wr kd fs vy wf rf m
      have hres : wr.heap[w.heap.size + 1]? = some (.cells (ar8 0 0 0 0 0 0 0 0) 23 (0, 0)) := (HB.out.block _ (by first | (simp; done) | (simp; omega))).trans (by
        rw [Below.heap_alloc _ _ _ (by first | (simp; done) | (simp; omega)), show w.heap.size + 1 = (w.alloc (.cells (cmC k i s z n q a len cap t l c b e u m o) 61)).heap.size from by simp]; exact heap_new _ _)
      have herr : wr.heap[w.heap.size + 1 + 1]? = some (.cells #[.int .i64 0] 52 (0, 0)) := (HB.out.block _ (by simp)).trans (by
        rw [show w.heap.size + 1 + 1 = ((w.alloc (.cells (cmC k i s z n q a len cap t l c b e u m o) 61)).alloc (.cells (ar8 0 0 0 0 0 0 0 0) 23)).heap.size from by simp]; exact heap_new _ _)
      have HRES : Hid (wr.heap[w.heap.size + 1]? = some (.cells (ar8 0 0 0 0 0 0 0 0) 23 (0, 0))) := hres
      have HERR : Hid (wr.heap[w.heap.size + 1 + 1]? = some (.cells #[.int .i64 0] 52 (0, 0))) := herr
      clear hres herr hbox
      by_cases hk : kd = k
      · subst hk
        have HC := HG2.out rfl hall.out
        clear HG2
        have HC2 : Hid (∀ W, Below w.heap.size w W → Calls Tryz.prog wf #[arr8 fs 0 0 0 0 0 0 0, cmV kd i s z n q a len cap t l c b e u m o] W (WPost W R)) := HC
        clear HC
        cases R with
        | none =>
          go_wp2_with fail
          with_reducible refine (HC2.out _ (Below.al HB1.out _)).mono ?_
          rintro r w1 ⟨rfl, hb1⟩
          have hr1 : w1.heap[w.heap.size + 1]? = some (.cells (ar8 0 0 0 0 0 0 0 0) 23 (0, 0)) := (hb1.block _ (by simp; have := (Array.getElem?_eq_some_iff.1 HRES.out).1; omega)).trans ((Below.heap_alloc _ _ _ (Array.getElem?_eq_some_iff.1 HRES.out).1).trans HRES.out)
          have he1 : w1.heap[w.heap.size + 1 + 1]? = some (.cells #[.int .i64 0] 52 (0, 0)) := (hb1.block _ (by simp; have := (Array.getElem?_eq_some_iff.1 HERR.out).1; omega)).trans ((Below.heap_alloc _ _ _ (Array.getElem?_eq_some_iff.1 HERR.out).1).trans HERR.out)
          have B1 : Below w.heap.size w w1 := Below.andThen (Below.al HB1.out _) hb1
          clear hb1 HC2 HRES HERR
          go_wp2_with fail
          have ce : w1.cell? ⟨w.heap.size + 1 + 1, 0, none⟩ = some (.int .i64 0) := by rw [cell_of_row w1 _ 0 _ _ _ he1]; rfl
          have ze : w1.frozen? ⟨w.heap.size + 1 + 1, 0, none⟩ = false := frozen_of_row w1 _ 0 _ _ he1
          refine leaves_cons (f := 96) (args := #[.pointer (some ⟨w.heap.size + 1, 0, none⟩), .pointer (some ⟨w.heap.size + 1 + 1, 0, none⟩)]) (by simp) (by simp [go_sem]) ?_
          refine (catch_panicking _ _ _ _ hr1 ce ze).mono ?_
          rintro e9 u9 w9 ⟨rfl, ⟨v9, rfl⟩, rfl⟩
          obtain ⟨W2, HW⟩ : ∃ W2, Hid (w1.setCell ⟨w.heap.size + 1 + 1, 0, none⟩ (.int .i64 2) = W2) := ⟨_, rfl⟩
          have HR2 : W2.heap[w.heap.size + 1]? = some (.cells (ar8 0 0 0 0 0 0 0 0) 23 (0, 0)) := by
            rw [← HW.out]; rw [Below.heap_setCell _ _ _ _ (by simp)]; exact hr1
          have q0 : W2.cell? ⟨w.heap.size + 1, 0, none⟩ = some (.int .u8 (0)) := by rw [cell_of_row W2 _ 0 _ _ _ HR2]; rfl
          have q1 : W2.cell? ⟨w.heap.size + 1, 1, none⟩ = some (.int .u8 (0)) := by rw [cell_of_row W2 _ 1 _ _ _ HR2]; rfl
          have q2 : W2.cell? ⟨w.heap.size + 1, 2, none⟩ = some (.int .u8 (0)) := by rw [cell_of_row W2 _ 2 _ _ _ HR2]; rfl
          have q3 : W2.cell? ⟨w.heap.size + 1, 3, none⟩ = some (.int .u8 (0)) := by rw [cell_of_row W2 _ 3 _ _ _ HR2]; rfl
          have q4 : W2.cell? ⟨w.heap.size + 1, 4, none⟩ = some (.int .u8 (0)) := by rw [cell_of_row W2 _ 4 _ _ _ HR2]; rfl
          have q5 : W2.cell? ⟨w.heap.size + 1, 5, none⟩ = some (.int .u8 (0)) := by rw [cell_of_row W2 _ 5 _ _ _ HR2]; rfl
          have q6 : W2.cell? ⟨w.heap.size + 1, 6, none⟩ = some (.int .u8 (0)) := by rw [cell_of_row W2 _ 6 _ _ _ HR2]; rfl
          have q7 : W2.cell? ⟨w.heap.size + 1, 7, none⟩ = some (.int .u8 (0)) := by rw [cell_of_row W2 _ 7 _ _ _ HR2]; rfl
          have qe : W2.cell? ⟨w.heap.size + 1 + 1, 0, none⟩ = some (.int .i64 2) := by
            rw [← HW.out]; exact World.cell?_setCell_same _ _ _ ce
          have B2 : Below w.heap.size w W2 := by
            rw [← HW.out]; exact B1.setCell (by exact Nat.le_trans (Nat.le_succ _) (Nat.le_succ _)) _
          rw [HW.out]
          simp [Leaves, settle, results, Tryz.results56, go_sem, q0, q1, q2, q3, q4, q5, q6, q7, qe]
          exact ⟨rfl, B2⟩
        | some x =>
          obtain ⟨x0, x1, x2, x3, x4, x5, x6, x7⟩ := x
          go_wp2_with fail
          with_reducible refine (HC2.out _ (Below.al HB1.out _)).mono ?_
          rintro r w1 ⟨rfl, hb1⟩
          have hr1 : w1.heap[w.heap.size + 1]? = some (.cells (ar8 0 0 0 0 0 0 0 0) 23 (0, 0)) := (hb1.block _ (by simp; have := (Array.getElem?_eq_some_iff.1 HRES.out).1; omega)).trans ((Below.heap_alloc _ _ _ (Array.getElem?_eq_some_iff.1 HRES.out).1).trans HRES.out)
          have he1 : w1.heap[w.heap.size + 1 + 1]? = some (.cells #[.int .i64 0] 52 (0, 0)) := (hb1.block _ (by simp; have := (Array.getElem?_eq_some_iff.1 HERR.out).1; omega)).trans ((Below.heap_alloc _ _ _ (Array.getElem?_eq_some_iff.1 HERR.out).1).trans HERR.out)
          have B1 : Below w.heap.size w w1 := Below.andThen (Below.al HB1.out _) hb1
          clear hb1 HC2 HRES HERR
          have he2 : (w1.setRow (w.heap.size + 1) (ar8 x0 x1 x2 x3 x4 x5 x6 x7)).heap[w.heap.size + 1 + 1]? = some (.cells #[.int .i64 0] 52 (0, 0)) := (setRow_other _ _ _ _ (by omega)).trans he1
          have ce : (w1.setRow (w.heap.size + 1) (ar8 x0 x1 x2 x3 x4 x5 x6 x7)).cell? ⟨w.heap.size + 1 + 1, 0, none⟩ = some (.int .i64 0) := by rw [cell_of_row _ _ 0 _ _ _ he2]; rfl
          have ze : (w1.setRow (w.heap.size + 1) (ar8 x0 x1 x2 x3 x4 x5 x6 x7)).frozen? ⟨w.heap.size + 1 + 1, 0, none⟩ = false := frozen_of_row _ _ 0 _ _ he2
          go_wp2_with (refine wpList_store_row rfl 23 _ _ rfl (w.heap.size + 1) (ar8 x0 x1 x2 x3 x4 x5 x6 x7) rfl rfl 23 _ hr1 size8 rfl (ar8_one _ _ _ _ _ _ _ _) ?_)
          refine leaves_cons (f := 96) (args := #[.pointer (some ⟨w.heap.size + 1, 0, none⟩), .pointer (some ⟨w.heap.size + 1 + 1, 0, none⟩)]) (by simp) (by simp [go_sem]) ?_
          refine (catch_idle _ _ _).mono ?_
          rintro e9 u9 w9 ⟨rfl, rfl, rfl⟩
          obtain ⟨W2, HW⟩ : ∃ W2, Hid ((w1.setRow (w.heap.size + 1) (ar8 x0 x1 x2 x3 x4 x5 x6 x7)).setCell ⟨w.heap.size + 1 + 1, 0, none⟩ (.int .i64 0) = W2) := ⟨_, rfl⟩
          have HR2 : W2.heap[w.heap.size + 1]? = some (.cells (ar8 x0 x1 x2 x3 x4 x5 x6 x7) 23 (0, 0)) := by
            rw [← HW.out]; rw [Below.heap_setCell _ _ _ _ (by simp)]; exact setRow_heap _ _ _ _ _ _ hr1
          have q0 : W2.cell? ⟨w.heap.size + 1, 0, none⟩ = some (.int .u8 (x0)) := by rw [cell_of_row W2 _ 0 _ _ _ HR2]; rfl
          have q1 : W2.cell? ⟨w.heap.size + 1, 1, none⟩ = some (.int .u8 (x1)) := by rw [cell_of_row W2 _ 1 _ _ _ HR2]; rfl
          have q2 : W2.cell? ⟨w.heap.size + 1, 2, none⟩ = some (.int .u8 (x2)) := by rw [cell_of_row W2 _ 2 _ _ _ HR2]; rfl
          have q3 : W2.cell? ⟨w.heap.size + 1, 3, none⟩ = some (.int .u8 (x3)) := by rw [cell_of_row W2 _ 3 _ _ _ HR2]; rfl
          have q4 : W2.cell? ⟨w.heap.size + 1, 4, none⟩ = some (.int .u8 (x4)) := by rw [cell_of_row W2 _ 4 _ _ _ HR2]; rfl
          have q5 : W2.cell? ⟨w.heap.size + 1, 5, none⟩ = some (.int .u8 (x5)) := by rw [cell_of_row W2 _ 5 _ _ _ HR2]; rfl
          have q6 : W2.cell? ⟨w.heap.size + 1, 6, none⟩ = some (.int .u8 (x6)) := by rw [cell_of_row W2 _ 6 _ _ _ HR2]; rfl
          have q7 : W2.cell? ⟨w.heap.size + 1, 7, none⟩ = some (.int .u8 (x7)) := by rw [cell_of_row W2 _ 7 _ _ _ HR2]; rfl
          have qe : W2.cell? ⟨w.heap.size + 1 + 1, 0, none⟩ = some (.int .i64 0) := by
            rw [← HW.out]; exact World.cell?_setCell_same _ _ _ ce
          have B2 : Below w.heap.size w W2 := by
            rw [← HW.out]; exact (below_setRow B1 (Nat.le_succ _) _).setCell (by exact Nat.le_trans (Nat.le_succ _) (Nat.le_succ _)) _
          rw [HW.out]
          simp [Leaves, settle, results, Tryz.results56, go_sem, q0, q1, q2, q3, q4, q5, q6, q7, qe]
          exact ⟨rfl, B2⟩
      · have hk' : (kd == k) = false := by simpa using hk
        go_wp2_with fail
        exact ⟨⟨j + 1, by go_num, by omega, fun j' h1 h2 => by
          by_cases e : j' = j
          · subst e; rw [HKD.out]; exact hk
          · exact hall.out j' h1 (by omega), Below.al HB.out _⟩, by simp [intOf]; omega⟩
    · obtain rfl : j = N := by omega
      have HR : R = none := HM.out fun j' hj' => hall.out j' hj' (by have := HN.out; omega)
      subst HR
      have hr1 : wr.heap[w.heap.size + 1]? = some (.cells (ar8 0 0 0 0 0 0 0 0) 23 (0, 0)) := (hb.block _ (by simp)).trans (by
        rw [Below.heap_alloc _ _ _ (by simp), show w.heap.size + 1 = (w.alloc (.cells (cmC k i s z n q a len cap t l c b e u m o) 61)).heap.size from by simp]; exact heap_new _ _)
      have he1 : wr.heap[w.heap.size + 1 + 1]? = some (.cells #[.int .i64 0] 52 (0, 0)) := (hb.block _ (by simp)).trans (by
        rw [show w.heap.size + 1 + 1 = ((w.alloc (.cells (cmC k i s z n q a len cap t l c b e u m o) 61)).alloc (.cells (ar8 0 0 0 0 0 0 0 0) 23)).heap.size from by simp]; exact heap_new _ _)
      have B1 : Below w.heap.size w wr := Below.andThen (by repeat (first | exact Below.refl _ _ | apply Below.drew | apply Below.al)) hb
      clear hb hall HH HM HT HF
      have nl : ¬ (j : Int) < (j : Int) := by omega
      have he2 : (wr.setRow (w.heap.size + 1) (ar8 0 0 0 0 0 0 0 0)).heap[w.heap.size + 1 + 1]? = some (.cells #[.int .i64 0] 52 (0, 0)) := (setRow_other _ _ _ _ (by omega)).trans he1
      have ce : (wr.setRow (w.heap.size + 1) (ar8 0 0 0 0 0 0 0 0)).cell? ⟨w.heap.size + 1 + 1, 0, none⟩ = some (.int .i64 0) := by rw [cell_of_row _ _ 0 _ _ _ he2]; rfl
      have ze : (wr.setRow (w.heap.size + 1) (ar8 0 0 0 0 0 0 0 0)).frozen? ⟨w.heap.size + 1 + 1, 0, none⟩ = false := frozen_of_row _ _ 0 _ _ he2
      go_wp2_with (refine wpList_store_row rfl 23 _ _ rfl (w.heap.size + 1) (ar8 0 0 0 0 0 0 0 0) rfl rfl 23 _ hr1 size8 rfl (ar8_one _ _ _ _ _ _ _ _) ?_)
      refine leaves_cons (f := 96) (args := #[.pointer (some ⟨w.heap.size + 1, 0, none⟩), .pointer (some ⟨w.heap.size + 1 + 1, 0, none⟩)]) (by simp) (by simp [go_sem]) ?_
      refine (catch_idle _ _ _).mono ?_
      rintro e9 u9 w9 ⟨rfl, rfl, rfl⟩
      obtain ⟨W2, HW⟩ : ∃ W2, Hid ((wr.setRow (w.heap.size + 1) (ar8 0 0 0 0 0 0 0 0)).setCell ⟨w.heap.size + 1 + 1, 0, none⟩ (.int .i64 2) = W2) := ⟨_, rfl⟩
      have HR2 : W2.heap[w.heap.size + 1]? = some (.cells (ar8 0 0 0 0 0 0 0 0) 23 (0, 0)) := by
        rw [← HW.out]; rw [Below.heap_setCell _ _ _ _ (by simp)]; exact setRow_heap _ _ _ _ _ _ hr1
      have q0 : W2.cell? ⟨w.heap.size + 1, 0, none⟩ = some (.int .u8 (0)) := by rw [cell_of_row W2 _ 0 _ _ _ HR2]; rfl
      have q1 : W2.cell? ⟨w.heap.size + 1, 1, none⟩ = some (.int .u8 (0)) := by rw [cell_of_row W2 _ 1 _ _ _ HR2]; rfl
      have q2 : W2.cell? ⟨w.heap.size + 1, 2, none⟩ = some (.int .u8 (0)) := by rw [cell_of_row W2 _ 2 _ _ _ HR2]; rfl
      have q3 : W2.cell? ⟨w.heap.size + 1, 3, none⟩ = some (.int .u8 (0)) := by rw [cell_of_row W2 _ 3 _ _ _ HR2]; rfl
      have q4 : W2.cell? ⟨w.heap.size + 1, 4, none⟩ = some (.int .u8 (0)) := by rw [cell_of_row W2 _ 4 _ _ _ HR2]; rfl
      have q5 : W2.cell? ⟨w.heap.size + 1, 5, none⟩ = some (.int .u8 (0)) := by rw [cell_of_row W2 _ 5 _ _ _ HR2]; rfl
      have q6 : W2.cell? ⟨w.heap.size + 1, 6, none⟩ = some (.int .u8 (0)) := by rw [cell_of_row W2 _ 6 _ _ _ HR2]; rfl
      have q7 : W2.cell? ⟨w.heap.size + 1, 7, none⟩ = some (.int .u8 (0)) := by rw [cell_of_row W2 _ 7 _ _ _ HR2]; rfl
      have qe : W2.cell? ⟨w.heap.size + 1 + 1, 0, none⟩ = some (.int .i64 2) := by
        rw [← HW.out]; exact World.cell?_setCell_same _ _ _ ce
      have B2 : Below w.heap.size w W2 := by
        rw [← HW.out]; exact (below_setRow B1 (Nat.le_succ _) _).setCell (by exact Nat.le_trans (Nat.le_succ _) (Nat.le_succ _)) _
      rw [HW.out]
      simp [Leaves, settle, results, Tryz.results56, go_sem, q0, q1, q2, q3, q4, q5, q6, q7, qe]
      exact ⟨rfl, B2⟩
#print axioms bytesOf_any
end Go.Proofs.YtimnpdegoehblaaGreatDoor
