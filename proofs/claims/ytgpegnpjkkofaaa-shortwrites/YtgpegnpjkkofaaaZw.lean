/-
  ShortWrites returns true.
-/
import Derived.Test.YtgpegnpjkkofaaaRl
import Derived.Test.YtgpegnpjkkofaaaZb
namespace Go.Proofs.Ytgpegnpjkkofaaa
open Go.RowKit

theorem same_it (a0 a1 a2 a3 a4 a5 a6 a7 : Int) : same8 a0 a1 a2 a3 a4 a5 a6 a7 a0 a1 a2 a3 a4 a5 a6 a7 = true := by simp [same8]
theorem bytes_gen (O : Option B8) : ∃ x0 x1 x2 x3 x4 x5 x6 x7 ec : Int, (∀ W r w', BPost W O r w' → r = .returned (.tuple #[arr8 x0 x1 x2 x3 x4 x5 x6 x7, .int .i64 ec]) ∧ Below W.heap.size W w') ∧ ((O = some ⟨x0, x1, x2, x3, x4, x5, x6, x7⟩ ∧ ec = 0) ∨ (O = none ∧ ec = 2)) := by
  cases O with
  | none => exact ⟨0, 0, 0, 0, 0, 0, 0, 0, 2, fun W r w' h => h, .inr ⟨rfl, rfl⟩⟩
  | some x => exact ⟨x.b0, x.b1, x.b2, x.b3, x.b4, x.b5, x.b6, x.b7, 0, fun W r w' h => h, .inl ⟨rfl, rfl⟩⟩

set_option maxRecDepth 100000 in
theorem own_any (a : Option Addr) (len cap : Nat) (zs : List Int) (w : World) (hr : Row w a len zs) (hl : len ≤ 16777216) :
    Calls Try.prog 8 #[.slice a len cap] w fun e w' => (∃ a' cap', e = .returned (.slice a' len cap') ∧ Row w' a' len zs ∧ ∀ b off, a' = some ⟨b, off, none⟩ → w.heap.size ≤ b) ∧ Below w.heap.size w w' := by
  go_enter Try.func8, Try.ntmps8
  go_wp2_with (at_builtin; refine wpList_append_nil rfl _ _ rfl rfl _ _ _ zs rfl hr hl ?_)
  intro a' cap' w' h1 h2 h3 h4 h5
  go_wp2_with fail
  go_ret
  exact ⟨⟨_, _, rfl, h3, fun b off e => Nat.le_of_eq (h4 b off e).1.symm⟩, h5⟩
theorem blk {W W' : World} {j : Nat} {v : Obj} (hb : Below W.heap.size W W') (h : W.heap[j]? = some v) : W'.heap[j]? = some v := (hb.block _ (Array.getElem?_eq_some_iff.1 h).1).trans h
theorem row_set {w : World} {a : Option Addr} {len : Nat} {zs : List Int} (h : Row w a len zs) (B : Nat) (cs : Array Value) (hB : ∀ b off, a = some ⟨b, off, none⟩ → b ≠ B) : Row (w.setRow B cs) a len zs :=
  ⟨h.size, h.oct, fun hp => by
    obtain ⟨b, off, e, hc⟩ := h.at_ hp
    exact ⟨b, off, e, fun i hi => by rw [World.cell?_of_block (w := w) (setRow_other _ _ _ _ (hB b off e))]; exact hc i hi⟩⟩
theorem storeS (w : World) (B j : Nat) (a : Option Addr) (len cap : Nat) (C D : Array Value) (T : TypeId) (h : w.heap[B]? = some (.cells C T (0, 0))) (hC : C.size = 15) (hj : j < 15) (hD : (C.toList.take j ++ [Value.slice a len cap] ++ C.toList.drop (j + 1)).toArray = D) : (storeVar 26 ⟨B, j, none⟩ (.slice a len cap)).run Try.prog w = .ok () (w.setRow B D) := by
  subst hD
  have he : (Try.prog.info? 26).map (·.size) = some 1 := by kernel_rfl
  cases hq : Try.prog.info? 26 with
  | none => simp [hq] at he
  | some i =>
    have hi : i.size = 1 := by simpa [hq] using he
    have := run_storeCells_at Try.prog B j T [.slice a len cap] 0 C w h (by simp; omega) (by simp [Value.oneCell'])
    simpa [storeVar, Value.cells, sizeOf, typeInfo, hq, hi, Result.andThen] using this

set_option linter.unusedSimpArgs false in
set_option maxHeartbeats 20000000 in
set_option maxRecDepth 100000 in
theorem shortWrites_any (C : Cm) (ok : C.Ok) (a : Option Addr) (cap : Nat) (w : World) (hr : Row w a C.d.length C.d) :
    Calls Try.prog 3 #[C.v a C.d.length cap] w fun e w' => e = .returned (.bool true) ∧ Below w.heap.size w w' := by
  by_cases hg : 100 < C.d.length
  · have hg1 : 100 < (C.d.length : Int) := by omega
    generalize C.d.length = len at hg1 ⊢
    clear hr hg ok
    go_enter Try.func3, Try.ntmps3
    go_wp2_with fail
    go_ret
    exact ⟨rfl, (by repeat (first | exact Below.refl _ _ | apply Below.drew | apply Below.al))⟩
  have hl : C.d.length ≤ 1000 := by omega
  have hg1 : ¬ 100 < (C.d.length : Int) := by omega
  have K0 : Hid (∀ W, Below w.heap.size w W → Calls Try.prog 8 #[.slice a C.d.length cap] W fun e w' => (∃ a' cap', e = .returned (.slice a' C.d.length cap') ∧ Row w' a' C.d.length C.d ∧ ∀ b off, a' = some ⟨b, off, none⟩ → W.heap.size ≤ b) ∧ Below W.heap.size W w') := fun W hb => own_any a _ cap C.d W (hr.next hb) (by omega)
  have K1 : Hid (∀ W a5 cap5, Row W a5 C.d.length C.d → Calls Try.prog 9 #[cmV C.k C.i C.s C.z C.n C.q a5 C.d.length cap5 C.t C.l C.c C.b C.e C.u C.m C.o] W (BPost W (askP C))) := fun W a5 cap5 h => ask_any C ok a5 cap5 W h
  have K2 : Hid (∀ W, Below w.heap.size w W → Calls Try.prog 10 #[cmV C.k C.i C.s C.z C.n C.q a C.d.length cap C.t C.l C.c C.b C.e C.u C.m C.o, .bool false] W (BPost W (askP C))) := fun W hb => rbytes_askP C ok a cap hl W (hr.next hb)
  have K3 : Hid (∀ W a5 cap5, Row W a5 C.d.length C.d → Calls Try.prog 12 #[cmV C.k C.i C.s C.z C.n C.q a5 C.d.length cap5 C.t C.l C.c C.b C.e C.u C.m C.o] W (BPost W (ansP C))) := fun W a5 cap5 h => answer_any C ok a5 cap5 W h
  have K4 : Hid (∀ W, Below w.heap.size w W → Calls Try.prog 10 #[cmV C.k C.i C.s C.z C.n C.q a C.d.length cap C.t C.l C.c C.b C.e C.u C.m C.o, .bool true] W (BPost W (ansP C))) := fun W hb => rbytes_ansP C ok a cap hl W (hr.next hb)
  have K5 : Hid (∀ W a5 cap5, Below w.heap.size w W → Row W a5 C.d.length C.d → Calls Try.prog 13 #[.slice a C.d.length cap, .slice a5 C.d.length cap5] W fun e w' => e = .returned (.bool true) ∧ w' = W) := fun W a5 cap5 hb h => by
    have := same_bytes a a5 C.d.length cap C.d.length cap5 C.d C.d W (hr.next hb) h
    rw [beq_self_eq_true] at this
    exact this
  obtain ⟨xa0, xa1, xa2, xa3, xa4, xa5, xa6, xa7, ca, PA, _⟩ := bytes_gen (askP C)
  obtain ⟨xc0, xc1, xc2, xc3, xc4, xc5, xc6, xc7, cc, PC, _⟩ := bytes_gen (ansP C)
  have HPA : Hid _ := PA
  have HPC : Hid _ := PC
  clear PA PC
  generalize askP C = OA at K1 K2 HPA
  generalize ansP C = OC at K3 K4 HPC
  have hm1 := same_it xa0 xa1 xa2 xa3 xa4 xa5 xa6 xa7
  have hm2 := same_it xc0 xc1 xc2 xc3 xc4 xc5 xc6 xc7
  have hq8 := eql8
  clear hr ok hl hg
  obtain ⟨len, hlen⟩ : ∃ len, C.d.length = len := ⟨_, rfl⟩
  rw [hlen] at K0 K1 K2 K3 K4 K5 hg1 ⊢
  obtain ⟨k, i, s, z, n, q, d, t, l, c, b, e, u, m, o⟩ := C
  dsimp only at K0 K1 K2 K3 K4 K5 ⊢
  clear hlen
  go_enter Try.func3, Try.ntmps3
  go_wp2_with fail
  with_reducible refine (K0.out _ (by repeat (first | assumption | exact Below.refl _ _ | apply Below.drew | apply Below.al))).mono ?_
  rintro r w1 ⟨⟨a5, cap5, rfl, hr5, hn5⟩, hb⟩
  have B1 : Below w.heap.size w w1 := Below.andThen (by repeat (first | assumption | exact Below.refl _ _ | apply Below.drew | apply Below.al)) hb
  have C1 : w1.heap[w.heap.size]? = some (.cells (cmC k i s z n q a len cap t l c b e u m o) 29 (0, 0)) := blk hb (ext_al (heap_new _ _))
  have D1 : w1.heap[w.heap.size + 1]? = some (.cells (cmC k i s z n q a len cap t l c b e u m o) 29 (0, 0)) := blk hb (heap_at _ _ _ (by simp))
  clear hb
  have l1 := (Array.getElem?_eq_some_iff.1 D1).1
  have D2 : (w1.setRow (w.heap.size + 1) (cmC k i s z n q a5 len cap5 t l c b e u m o)).heap[w.heap.size + 1]? = some (.cells (cmC k i s z n q a5 len cap5 t l c b e u m o) 29 (0, 0)) := setRow_heap _ _ _ _ _ _ D1
  have C2 : (w1.setRow (w.heap.size + 1) (cmC k i s z n q a5 len cap5 t l c b e u m o)).heap[w.heap.size]? = some (.cells (cmC k i s z n q a len cap t l c b e u m o) 29 (0, 0)) := (setRow_other _ _ _ _ (by omega)).trans C1
  have B2 : Below w.heap.size w (w1.setRow (w.heap.size + 1) (cmC k i s z n q a5 len cap5 t l c b e u m o)) := below_setRow B1 (Nat.le_succ _) _
  have HR5 : Hid (Row (w1.setRow (w.heap.size + 1) (cmC k i s z n q a5 len cap5 t l c b e u m o)) a5 len d) := row_set hr5 _ _ (fun b off e => by have h9 := hn5 b off e; simp at h9; omega)
  clear hr5 hn5
  go_wp2_with (first | (refine wpList_store_by rfl 26 _ _ rfl _ _ rfl rfl (storeS w1 (w.heap.size + 1) 6 _ _ _ _ (cmC k i s z n q a5 len cap5 t l c b e u m o) _ D1 rfl (by decide) rfl) ?_) | (refine wpList_load_by rfl 29 _ rfl _ _ rfl (loadCM _ (w.heap.size + 1) _ _ _ _ _ _ _ _ _ _ _ _ _ _ _ _ _ _ D2) ?_))
  with_reducible refine (K1.out _ a5 cap5 HR5.out).mono ?_
  intro r w2 hpp
  obtain ⟨rfl, hb⟩ := HPA.out _ _ _ hpp
  clear hpp
  have B3 := Below.andThen B2 hb
  have C3 := blk hb C2
  have D3 := blk hb D2
  have R3 : Hid (Row w2 a5 len d) := HR5.out.next hb
  clear hb
  have B4 := Below.al B3 (.cells (ar8 xa0 xa1 xa2 xa3 xa4 xa5 xa6 xa7) 31)
  have C4 := ext_al (o := .cells (ar8 xa0 xa1 xa2 xa3 xa4 xa5 xa6 xa7) 31) C3
  have D4 := ext_al (o := .cells (ar8 xa0 xa1 xa2 xa3 xa4 xa5 xa6 xa7) 31) D3
  have X4 := heap_new w2 (.cells (ar8 xa0 xa1 xa2 xa3 xa4 xa5 xa6 xa7) 31)
  have R4 : Hid (Row (w2.alloc (.cells (ar8 xa0 xa1 xa2 xa3 xa4 xa5 xa6 xa7) 31)) a5 len d) := R3.out.next (Below.al (Below.refl _ _) _)
  go_wp2_with (refine wpList_load_by rfl 29 _ rfl _ _ rfl (loadCM _ (w.heap.size) _ _ _ _ _ _ _ _ _ _ _ _ _ _ _ _ _ _ C4) ?_)
  with_reducible refine (ref_any k i s z n q a len cap t l c b e u m o _).mono ?_
  rintro r ww ⟨rfl, p1, p2, rfl⟩
  go_wp2_with fail
  with_reducible refine (K2.out _ (Below.al (Below.al B4 _) _)).mono ?_
  intro r w3 hpp
  obtain ⟨rfl, hb⟩ := HPA.out _ _ _ hpp
  clear hpp
  have C5 := blk hb (ext_al (ext_al C4))
  have D5 := blk hb (ext_al (ext_al D4))
  have X5 := blk hb (ext_al (ext_al X4))
  have B5 := Below.andThen (Below.al (Below.al B4 _) _) hb
  have R5 : Hid (Row w3 a5 len d) := (R4.out.next (Below.al (Below.al (Below.refl _ _) p1) p2)).next hb
  clear hb
  have B6 := Below.al B5 (.cells (ar8 xa0 xa1 xa2 xa3 xa4 xa5 xa6 xa7) 31)
  have C6 := ext_al (o := (.cells (ar8 xa0 xa1 xa2 xa3 xa4 xa5 xa6 xa7) 31)) C5
  have D6 := ext_al (o := (.cells (ar8 xa0 xa1 xa2 xa3 xa4 xa5 xa6 xa7) 31)) D5
  have X6 := ext_al (o := (.cells (ar8 xa0 xa1 xa2 xa3 xa4 xa5 xa6 xa7) 31)) X5
  have Y6 := heap_new w3 (.cells (ar8 xa0 xa1 xa2 xa3 xa4 xa5 xa6 xa7) 31)
  have R6 : Hid (Row (w3.alloc (.cells (ar8 xa0 xa1 xa2 xa3 xa4 xa5 xa6 xa7) 31)) a5 len d) := R5.out.next (Below.al (Below.refl _ _) _)
  go_wp2_with (refine wpList_load_by rfl 29 _ rfl _ _ rfl (loadCM _ (w.heap.size + 1) _ _ _ _ _ _ _ _ _ _ _ _ _ _ _ _ _ _ D6) ?_)
  with_reducible refine (K3.out _ a5 cap5 R6.out).mono ?_
  intro r w4 hpp
  obtain ⟨rfl, hb⟩ := HPC.out _ _ _ hpp
  clear hpp
  have C7 := blk hb C6
  have D7 := blk hb D6
  have X7 := blk hb X6
  have Y7 := blk hb Y6
  have B7 := Below.andThen B6 hb
  have R7 : Hid (Row w4 a5 len d) := R6.out.next hb
  clear hb
  have B8 := Below.al B7 (.cells (ar8 xc0 xc1 xc2 xc3 xc4 xc5 xc6 xc7) 31)
  have C8 := ext_al (o := (.cells (ar8 xc0 xc1 xc2 xc3 xc4 xc5 xc6 xc7) 31)) C7
  have D8 := ext_al (o := (.cells (ar8 xc0 xc1 xc2 xc3 xc4 xc5 xc6 xc7) 31)) D7
  have X8 := ext_al (o := (.cells (ar8 xc0 xc1 xc2 xc3 xc4 xc5 xc6 xc7) 31)) X7
  have Y8 := ext_al (o := (.cells (ar8 xc0 xc1 xc2 xc3 xc4 xc5 xc6 xc7) 31)) Y7
  have U8 := heap_new w4 (.cells (ar8 xc0 xc1 xc2 xc3 xc4 xc5 xc6 xc7) 31)
  have R8 : Hid (Row (w4.alloc (.cells (ar8 xc0 xc1 xc2 xc3 xc4 xc5 xc6 xc7) 31)) a5 len d) := R7.out.next (Below.al (Below.refl _ _) _)
  go_wp2_with (refine wpList_load_by rfl 29 _ rfl _ _ rfl (loadCM _ (w.heap.size) _ _ _ _ _ _ _ _ _ _ _ _ _ _ _ _ _ _ C8) ?_)
  with_reducible refine (ref_any k i s z n q a len cap t l c b e u m o _).mono ?_
  rintro r ww ⟨rfl, p3, p4, rfl⟩
  go_wp2_with fail
  with_reducible refine (K4.out _ (Below.al (Below.al B8 _) _)).mono ?_
  intro r w5 hpp
  obtain ⟨rfl, hb⟩ := HPC.out _ _ _ hpp
  clear hpp
  have C9 := blk hb (ext_al (ext_al C8))
  have D9 := blk hb (ext_al (ext_al D8))
  have X9 := blk hb (ext_al (ext_al X8))
  have Y9 := blk hb (ext_al (ext_al Y8))
  have U9 := blk hb (ext_al (ext_al U8))
  have B9 := Below.andThen (Below.al (Below.al B8 _) _) hb
  have R9 : Hid (Row w5 a5 len d) := (R8.out.next (Below.al (Below.al (Below.refl _ _) p3) p4)).next hb
  clear hb
  have B10 := Below.al B9 (.cells (ar8 xc0 xc1 xc2 xc3 xc4 xc5 xc6 xc7) 31)
  have C10 := ext_al (o := (.cells (ar8 xc0 xc1 xc2 xc3 xc4 xc5 xc6 xc7) 31)) C9
  have D10 := ext_al (o := (.cells (ar8 xc0 xc1 xc2 xc3 xc4 xc5 xc6 xc7) 31)) D9
  have X10 := ext_al (o := (.cells (ar8 xc0 xc1 xc2 xc3 xc4 xc5 xc6 xc7) 31)) X9
  have Y10 := ext_al (o := (.cells (ar8 xc0 xc1 xc2 xc3 xc4 xc5 xc6 xc7) 31)) Y9
  have U10 := ext_al (o := (.cells (ar8 xc0 xc1 xc2 xc3 xc4 xc5 xc6 xc7) 31)) U9
  have V10 := heap_new w5 (.cells (ar8 xc0 xc1 xc2 xc3 xc4 xc5 xc6 xc7) 31)
  have R10 : Hid (Row (w5.alloc (.cells (ar8 xc0 xc1 xc2 xc3 xc4 xc5 xc6 xc7) 31)) a5 len d) := R9.out.next (Below.al (Below.refl _ _) _)
  have f1 : (w5.alloc (.cells (ar8 xc0 xc1 xc2 xc3 xc4 xc5 xc6 xc7) 31)).cell? ⟨w.heap.size, 6, none⟩ = some (.slice a len cap) := by rw [cell_of_row _ _ 6 _ _ _ C10]; rfl
  have f2 : (w5.alloc (.cells (ar8 xc0 xc1 xc2 xc3 xc4 xc5 xc6 xc7) 31)).cell? ⟨w.heap.size + 1, 6, none⟩ = some (.slice a5 len cap5) := by rw [cell_of_row _ _ 6 _ _ _ D10]; rfl
  have gX0 : (w5.alloc (.cells (ar8 xc0 xc1 xc2 xc3 xc4 xc5 xc6 xc7) 31)).cell? ⟨w2.heap.size, 0, none⟩ = some (.int .u8 xa0) := by rw [cell_of_row _ _ 0 _ _ _ X10]; rfl
  have gX1 : (w5.alloc (.cells (ar8 xc0 xc1 xc2 xc3 xc4 xc5 xc6 xc7) 31)).cell? ⟨w2.heap.size, 1, none⟩ = some (.int .u8 xa1) := by rw [cell_of_row _ _ 1 _ _ _ X10]; rfl
  have gX2 : (w5.alloc (.cells (ar8 xc0 xc1 xc2 xc3 xc4 xc5 xc6 xc7) 31)).cell? ⟨w2.heap.size, 2, none⟩ = some (.int .u8 xa2) := by rw [cell_of_row _ _ 2 _ _ _ X10]; rfl
  have gX3 : (w5.alloc (.cells (ar8 xc0 xc1 xc2 xc3 xc4 xc5 xc6 xc7) 31)).cell? ⟨w2.heap.size, 3, none⟩ = some (.int .u8 xa3) := by rw [cell_of_row _ _ 3 _ _ _ X10]; rfl
  have gX4 : (w5.alloc (.cells (ar8 xc0 xc1 xc2 xc3 xc4 xc5 xc6 xc7) 31)).cell? ⟨w2.heap.size, 4, none⟩ = some (.int .u8 xa4) := by rw [cell_of_row _ _ 4 _ _ _ X10]; rfl
  have gX5 : (w5.alloc (.cells (ar8 xc0 xc1 xc2 xc3 xc4 xc5 xc6 xc7) 31)).cell? ⟨w2.heap.size, 5, none⟩ = some (.int .u8 xa5) := by rw [cell_of_row _ _ 5 _ _ _ X10]; rfl
  have gX6 : (w5.alloc (.cells (ar8 xc0 xc1 xc2 xc3 xc4 xc5 xc6 xc7) 31)).cell? ⟨w2.heap.size, 6, none⟩ = some (.int .u8 xa6) := by rw [cell_of_row _ _ 6 _ _ _ X10]; rfl
  have gX7 : (w5.alloc (.cells (ar8 xc0 xc1 xc2 xc3 xc4 xc5 xc6 xc7) 31)).cell? ⟨w2.heap.size, 7, none⟩ = some (.int .u8 xa7) := by rw [cell_of_row _ _ 7 _ _ _ X10]; rfl
  have gY0 : (w5.alloc (.cells (ar8 xc0 xc1 xc2 xc3 xc4 xc5 xc6 xc7) 31)).cell? ⟨w3.heap.size, 0, none⟩ = some (.int .u8 xa0) := by rw [cell_of_row _ _ 0 _ _ _ Y10]; rfl
  have gY1 : (w5.alloc (.cells (ar8 xc0 xc1 xc2 xc3 xc4 xc5 xc6 xc7) 31)).cell? ⟨w3.heap.size, 1, none⟩ = some (.int .u8 xa1) := by rw [cell_of_row _ _ 1 _ _ _ Y10]; rfl
  have gY2 : (w5.alloc (.cells (ar8 xc0 xc1 xc2 xc3 xc4 xc5 xc6 xc7) 31)).cell? ⟨w3.heap.size, 2, none⟩ = some (.int .u8 xa2) := by rw [cell_of_row _ _ 2 _ _ _ Y10]; rfl
  have gY3 : (w5.alloc (.cells (ar8 xc0 xc1 xc2 xc3 xc4 xc5 xc6 xc7) 31)).cell? ⟨w3.heap.size, 3, none⟩ = some (.int .u8 xa3) := by rw [cell_of_row _ _ 3 _ _ _ Y10]; rfl
  have gY4 : (w5.alloc (.cells (ar8 xc0 xc1 xc2 xc3 xc4 xc5 xc6 xc7) 31)).cell? ⟨w3.heap.size, 4, none⟩ = some (.int .u8 xa4) := by rw [cell_of_row _ _ 4 _ _ _ Y10]; rfl
  have gY5 : (w5.alloc (.cells (ar8 xc0 xc1 xc2 xc3 xc4 xc5 xc6 xc7) 31)).cell? ⟨w3.heap.size, 5, none⟩ = some (.int .u8 xa5) := by rw [cell_of_row _ _ 5 _ _ _ Y10]; rfl
  have gY6 : (w5.alloc (.cells (ar8 xc0 xc1 xc2 xc3 xc4 xc5 xc6 xc7) 31)).cell? ⟨w3.heap.size, 6, none⟩ = some (.int .u8 xa6) := by rw [cell_of_row _ _ 6 _ _ _ Y10]; rfl
  have gY7 : (w5.alloc (.cells (ar8 xc0 xc1 xc2 xc3 xc4 xc5 xc6 xc7) 31)).cell? ⟨w3.heap.size, 7, none⟩ = some (.int .u8 xa7) := by rw [cell_of_row _ _ 7 _ _ _ Y10]; rfl
  have gU0 : (w5.alloc (.cells (ar8 xc0 xc1 xc2 xc3 xc4 xc5 xc6 xc7) 31)).cell? ⟨w4.heap.size, 0, none⟩ = some (.int .u8 xc0) := by rw [cell_of_row _ _ 0 _ _ _ U10]; rfl
  have gU1 : (w5.alloc (.cells (ar8 xc0 xc1 xc2 xc3 xc4 xc5 xc6 xc7) 31)).cell? ⟨w4.heap.size, 1, none⟩ = some (.int .u8 xc1) := by rw [cell_of_row _ _ 1 _ _ _ U10]; rfl
  have gU2 : (w5.alloc (.cells (ar8 xc0 xc1 xc2 xc3 xc4 xc5 xc6 xc7) 31)).cell? ⟨w4.heap.size, 2, none⟩ = some (.int .u8 xc2) := by rw [cell_of_row _ _ 2 _ _ _ U10]; rfl
  have gU3 : (w5.alloc (.cells (ar8 xc0 xc1 xc2 xc3 xc4 xc5 xc6 xc7) 31)).cell? ⟨w4.heap.size, 3, none⟩ = some (.int .u8 xc3) := by rw [cell_of_row _ _ 3 _ _ _ U10]; rfl
  have gU4 : (w5.alloc (.cells (ar8 xc0 xc1 xc2 xc3 xc4 xc5 xc6 xc7) 31)).cell? ⟨w4.heap.size, 4, none⟩ = some (.int .u8 xc4) := by rw [cell_of_row _ _ 4 _ _ _ U10]; rfl
  have gU5 : (w5.alloc (.cells (ar8 xc0 xc1 xc2 xc3 xc4 xc5 xc6 xc7) 31)).cell? ⟨w4.heap.size, 5, none⟩ = some (.int .u8 xc5) := by rw [cell_of_row _ _ 5 _ _ _ U10]; rfl
  have gU6 : (w5.alloc (.cells (ar8 xc0 xc1 xc2 xc3 xc4 xc5 xc6 xc7) 31)).cell? ⟨w4.heap.size, 6, none⟩ = some (.int .u8 xc6) := by rw [cell_of_row _ _ 6 _ _ _ U10]; rfl
  have gU7 : (w5.alloc (.cells (ar8 xc0 xc1 xc2 xc3 xc4 xc5 xc6 xc7) 31)).cell? ⟨w4.heap.size, 7, none⟩ = some (.int .u8 xc7) := by rw [cell_of_row _ _ 7 _ _ _ U10]; rfl
  have gV0 : (w5.alloc (.cells (ar8 xc0 xc1 xc2 xc3 xc4 xc5 xc6 xc7) 31)).cell? ⟨w5.heap.size, 0, none⟩ = some (.int .u8 xc0) := by rw [cell_of_row _ _ 0 _ _ _ V10]; rfl
  have gV1 : (w5.alloc (.cells (ar8 xc0 xc1 xc2 xc3 xc4 xc5 xc6 xc7) 31)).cell? ⟨w5.heap.size, 1, none⟩ = some (.int .u8 xc1) := by rw [cell_of_row _ _ 1 _ _ _ V10]; rfl
  have gV2 : (w5.alloc (.cells (ar8 xc0 xc1 xc2 xc3 xc4 xc5 xc6 xc7) 31)).cell? ⟨w5.heap.size, 2, none⟩ = some (.int .u8 xc2) := by rw [cell_of_row _ _ 2 _ _ _ V10]; rfl
  have gV3 : (w5.alloc (.cells (ar8 xc0 xc1 xc2 xc3 xc4 xc5 xc6 xc7) 31)).cell? ⟨w5.heap.size, 3, none⟩ = some (.int .u8 xc3) := by rw [cell_of_row _ _ 3 _ _ _ V10]; rfl
  have gV4 : (w5.alloc (.cells (ar8 xc0 xc1 xc2 xc3 xc4 xc5 xc6 xc7) 31)).cell? ⟨w5.heap.size, 4, none⟩ = some (.int .u8 xc4) := by rw [cell_of_row _ _ 4 _ _ _ V10]; rfl
  have gV5 : (w5.alloc (.cells (ar8 xc0 xc1 xc2 xc3 xc4 xc5 xc6 xc7) 31)).cell? ⟨w5.heap.size, 5, none⟩ = some (.int .u8 xc5) := by rw [cell_of_row _ _ 5 _ _ _ V10]; rfl
  have gV6 : (w5.alloc (.cells (ar8 xc0 xc1 xc2 xc3 xc4 xc5 xc6 xc7) 31)).cell? ⟨w5.heap.size, 6, none⟩ = some (.int .u8 xc6) := by rw [cell_of_row _ _ 6 _ _ _ V10]; rfl
  have gV7 : (w5.alloc (.cells (ar8 xc0 xc1 xc2 xc3 xc4 xc5 xc6 xc7) 31)).cell? ⟨w5.heap.size, 7, none⟩ = some (.int .u8 xc7) := by rw [cell_of_row _ _ 7 _ _ _ V10]; rfl
  go_wp2_with fail
  with_reducible refine (K5.out _ a5 cap5 B10 R10.out).mono ?_
  rintro r ww ⟨rfl, rfl⟩
  go_wp2_with fail
  with_reducible refine (works_any _).mono ?_
  rintro r vf ⟨rfl, hbf⟩
  have Bf : Below w.heap.size w vf := Below.andThen B10 hbf
  go_wp2_with fail
  go_ret
  exact ⟨rfl, Bf⟩
#print axioms shortWrites_any
end Go.Proofs.Ytgpegnpjkkofaaa
