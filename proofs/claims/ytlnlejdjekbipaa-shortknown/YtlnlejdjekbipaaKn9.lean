/-
  The walk of ShortKnown, over the contracts of the statements that it calls.
  ShortKnown returns true.
  Proved: ShortKnown returns true (a closed statement).
-/
import Derived.Test.YtlnlejdjekbipaaSg
import Derived.Deep.RegionHeld3
import Derived.Great.BuildSlice
import Derived.Test.YtlnlejdjekbipaaTk9
import Derived.Test.YtlnlejdjekbipaaZr
import Derived.Test.YtlnlejdjekbipaaRows
import Derived.WalkKit
import Derived.ProofKit
import Derived.OpenShut
import Derived.Deep.DeepHandedRow
import Derived.MakeChecks
import Derived.Stop.LaidErr
import Derived.ChangeOld
import Derived.ShutString
namespace Go.Proofs.Ytlnlejdjekbipaa
open Go.RowKit

theorem ext9 {W : World} {j : Nat} {o v : Obj} (h : W.heap[j]? = some v) : (W.alloc o).heap[j]? = some v := (Below.heap_alloc _ _ _ (Array.getElem?_eq_some_iff.1 h).1).trans h
theorem blk9 {W W' : World} {j : Nat} {v : Obj} (hb : Below W.heap.size W W') (h : W.heap[j]? = some v) : W'.heap[j]? = some v := (hb.block _ (Array.getElem?_eq_some_iff.1 h).1).trans h
theorem at9 (w : World) (o : Obj) (j : Nat) (h : j = w.heap.size) : (w.alloc o).heap[j]? = some o := by subst h; exact heap_new w o
theorem ex9_load {o : Oper} {a : Act} {w : World} (ty : TypeId) (x : Operand) (ho : o.op = .load ty x) (ad : Addr) (v : Value) (hx : a.eval x = .pointer (some ad)) (hr : (loadVar ty ad).run Try.prog w = .ok v w) : (execOp a.eval o).run Try.prog w = .ok (.value v) w := by
  unfold execOp
  simp only [ho, hx, Instr.loadAt, Instr.sureAddr, Sem.run_bind, Sem.run_pure, Result.andThen_ok, hr]
theorem load9_w {ops : Array Oper} {rest : List Oper} {o : Oper} {a : Act} {w : World} {Q : Exit → Act → World → Prop} (hw : Region.wanted o (yielded ops a.tmps) = true) (ty : TypeId) (x : Operand) (ho : o.op = .load ty x)
    (ad : Addr) (v : Value) (hx : a.eval x = .pointer (some ad)) (hr : (loadVar ty ad).run Try.prog w = .ok v w)
    (h : wpList Try.prog ops Q rest (a.put o.dst v) w) : wpList Try.prog ops Q (o :: rest) a w :=
  wpList_step fun _ hK => by rw [if_pos hw]; exact wp_load_by ty x ho ad v hx hr (hK _ _ h)
theorem oct8 {x0 x1 x2 x3 x4 x5 x6 x7 : Int} (h0 : 0 ≤ x0 ∧ x0 < 256) (h1 : 0 ≤ x1 ∧ x1 < 256) (h2 : 0 ≤ x2 ∧ x2 < 256) (h3 : 0 ≤ x3 ∧ x3 < 256) (h4 : 0 ≤ x4 ∧ x4 < 256) (h5 : 0 ≤ x5 ∧ x5 < 256) (h6 : 0 ≤ x6 ∧ x6 < 256) (h7 : 0 ≤ x7 ∧ x7 < 256) : Oct [x0, x1, x2, x3, x4, x5, x6, x7] := by
  intro m hm
  simp only [List.mem_cons, List.not_mem_nil, or_false] at hm
  rcases hm with rfl | rfl | rfl | rfl | rfl | rfl | rfl | rfl <;> assumption
theorem oct7 {r0 r1 r2 r3 r4 r5 r6 : Int} (h0 : 0 ≤ r0 ∧ r0 < 256) (h1 : 0 ≤ r1 ∧ r1 < 256) (h2 : 0 ≤ r2 ∧ r2 < 256) (h3 : 0 ≤ r3 ∧ r3 < 256) (h4 : 0 ≤ r4 ∧ r4 < 256) (h5 : 0 ≤ r5 ∧ r5 < 256) (h6 : 0 ≤ r6 ∧ r6 < 256) : Oct [r0, r1, r2, r3, r4, r5, r6] := by
  intro m hm
  simp only [List.mem_cons, List.not_mem_nil, or_false] at hm
  rcases hm with rfl | rfl | rfl | rfl | rfl | rfl | rfl <;> assumption
theorem oct_at {x0 x1 x2 x3 x4 x5 x6 x7 : Int} (h : Oct [x0, x1, x2, x3, x4, x5, x6, x7]) (k : Nat) (hk : k < 8) : 0 ≤ [x0, x1, x2, x3, x4, x5, x6, x7][k]'(by simpa using hk) ∧ [x0, x1, x2, x3, x4, x5, x6, x7][k]'(by simpa using hk) < 256 := h _ (List.getElem_mem _)
theorem wrap9 (x : Int) (h : -1000 ≤ x ∧ x < 1000) : IntKind.i64.wrap x = x := by simp [IntKind.wrap, IntKind.bits, IntKind.signed]; omega
theorem froz9 (w : World) (B j : Nat) (C : Array Value) (T : TypeId) (h : w.heap[B]? = some (.cells C T (0, 0))) : w.frozen? ⟨B, j, none⟩ = false := by
  simp [World.frozen?, h]
/-- A byte is stored into a row. -/
theorem storeU (w : World) (B j : Nat) (v : Int) (C D : Array Value) (T : TypeId) (h : w.heap[B]? = some (.cells C T (0, 0))) (hj : j < C.size) (hD : C.setIfInBounds j (.int .u8 v) = D) : (storeVar 5 ⟨B, j, none⟩ (.int .u8 v)).run Try.prog w = .ok () (w.setRow B D) := by
  subst hD
  have he : (Try.prog.info? 5).map (·.size) = some 1 := by kernel_rfl
  cases hq : Try.prog.info? 5 with
  | none => simp [hq] at he
  | some i =>
    have hi : i.size = 1 := by simpa [hq] using he
    have e1 : (C.toList.take j ++ [Value.int .u8 v] ++ C.toList.drop (j + 1)).toArray = C.setIfInBounds j (.int .u8 v) := by
      apply Array.toList_inj.1
      simp [List.set_eq_take_append_cons_drop, hj]
    rw [← e1]
    have := run_storeCells_at Try.prog B j T [.int .u8 v] 0 C w h (by simp; omega) (by simp [Value.oneCell'])
    simpa [storeVar, Value.cells, sizeOf, typeInfo, hq, hi, Result.andThen] using this
theorem s9_0 (B : Nat) (w : World) : (Instr.sliceAt 53 (.pointer (some ⟨B, 0, none⟩)) none (some (.int .i64 0)) none).run Try.prog w = .ok (.slice (some ⟨B, 0, none⟩) 0 7) w := by kernel_rfl
theorem s9_1 (B : Nat) (w : World) : (Instr.sliceAt 53 (.pointer (some ⟨B, 0, none⟩)) none (some (.int .i64 1)) none).run Try.prog w = .ok (.slice (some ⟨B, 0, none⟩) 1 7) w := by kernel_rfl
theorem s9_2 (B : Nat) (w : World) : (Instr.sliceAt 53 (.pointer (some ⟨B, 0, none⟩)) none (some (.int .i64 2)) none).run Try.prog w = .ok (.slice (some ⟨B, 0, none⟩) 2 7) w := by kernel_rfl
theorem s9_3 (B : Nat) (w : World) : (Instr.sliceAt 53 (.pointer (some ⟨B, 0, none⟩)) none (some (.int .i64 3)) none).run Try.prog w = .ok (.slice (some ⟨B, 0, none⟩) 3 7) w := by kernel_rfl
theorem s9_4 (B : Nat) (w : World) : (Instr.sliceAt 53 (.pointer (some ⟨B, 0, none⟩)) none (some (.int .i64 4)) none).run Try.prog w = .ok (.slice (some ⟨B, 0, none⟩) 4 7) w := by kernel_rfl
theorem s9_5 (B : Nat) (w : World) : (Instr.sliceAt 53 (.pointer (some ⟨B, 0, none⟩)) none (some (.int .i64 5)) none).run Try.prog w = .ok (.slice (some ⟨B, 0, none⟩) 5 7) w := by kernel_rfl
theorem s9_6 (B : Nat) (w : World) : (Instr.sliceAt 53 (.pointer (some ⟨B, 0, none⟩)) none (some (.int .i64 6)) none).run Try.prog w = .ok (.slice (some ⟨B, 0, none⟩) 6 7) w := by kernel_rfl
theorem s9_7 (B : Nat) (w : World) : (Instr.sliceAt 53 (.pointer (some ⟨B, 0, none⟩)) none (some (.int .i64 7)) none).run Try.prog w = .ok (.slice (some ⟨B, 0, none⟩) 7 7) w := by kernel_rfl
theorem slice9 (B n : Nat) (h : n ≤ 7) (w : World) : (Instr.sliceAt 53 (.pointer (some ⟨B, 0, none⟩)) none (some (.int .i64 (n : Int))) none).run Try.prog w = .ok (.slice (some ⟨B, 0, none⟩) n 7) w := by
  have h9 : n = 0 ∨ n = 1 ∨ n = 2 ∨ n = 3 ∨ n = 4 ∨ n = 5 ∨ n = 6 ∨ n = 7 := by omega
  rcases h9 with rfl | rfl | rfl | rfl | rfl | rfl | rfl | rfl
  · exact s9_0 B w
  · exact s9_1 B w
  · exact s9_2 B w
  · exact s9_3 B w
  · exact s9_4 B w
  · exact s9_5 B w
  · exact s9_6 B w
  · exact s9_7 B w
theorem make9 (n : Nat) (h : n ≤ 16777216) (w : World) : (Instr.makeSlice 26 (.int .i64 (n : Int)) (.int .i64 (n : Int))).run Try.prog w = .ok (.slice (some ⟨w.heap.size, 0, none⟩) n n) (w.alloc (.cells (madeCells #[.int .u8 0] n) 5)) :=
  Go.run_make_row' 26 5 (.int .u8 0) 1 Try.underlying26 (by kernel_rfl) rfl .i64 .i64 n (by omega) (by omega) w
theorem row9 (r0 r1 r2 r3 r4 r5 r6 : Int) (W : World) (R n : Nat) (hn : n ≤ 7) (ho : Oct [r0, r1, r2, r3, r4, r5, r6]) (h : W.heap[R]? = some (.cells #[.int .u8 r0, .int .u8 r1, .int .u8 r2, .int .u8 r3, .int .u8 r4, .int .u8 r5, .int .u8 r6] 53 (0, 0))) : Row W (some ⟨R, 0, none⟩) n ([r0, r1, r2, r3, r4, r5, r6].take n) where
  size := by simp; omega
  oct := ho.take n
  at_ := fun _ => ⟨R, 0, rfl, fun i hi => by
    have h9 : i = 0 ∨ i = 1 ∨ i = 2 ∨ i = 3 ∨ i = 4 ∨ i = 5 ∨ i = 6 := by omega
    rw [Nat.zero_add, cell_of_row W R i _ _ _ h]
    have e : ([r0, r1, r2, r3, r4, r5, r6].take n).getD i 0 = [r0, r1, r2, r3, r4, r5, r6].getD i 0 := by simp [List.getD_eq_getElem?_getD, hi]
    rw [e]
    rcases h9 with rfl | rfl | rfl | rfl | rfl | rfl | rfl <;> rfl⟩
theorem made9 (n : Nat) : madeCells #[.int .u8 0] n = ((List.replicate n (0 : Int)).map (Value.int .u8)).toArray := by
  apply Array.toList_inj.1
  refine List.ext_getElem (by simp [madeCells]) (fun i _ _ => by simp [madeCells, Nat.mod_one])
theorem rows9 (ji : Nat) (h : ji < 3) (G : Nat) : ∃ r0 r1 r2 r3 r4 r5 r6 : Int, Oct [r0, r1, r2, r3, r4, r5, r6] ∧ ∀ W : World, W.heap[G]? = some (.cells #[.int .u8 0, .int .u8 0, .int .u8 0, .int .u8 0, .int .u8 0, .int .u8 0, .int .u8 0, .int .u8 23, .int .u8 16, .int .u8 0, .int .u8 1, .int .u8 0, .int .u8 0, .int .u8 0, .int .u8 5, .int .u8 127, .int .u8 0, .int .u8 0, .int .u8 0, .int .u8 0, .int .u8 0] 53 (0, 0)) → W.cell? ⟨G, ji * 7, none⟩ = some (.int .u8 r0) ∧ W.cell? ⟨G, ji * 7 + 1, none⟩ = some (.int .u8 r1) ∧ W.cell? ⟨G, ji * 7 + 2, none⟩ = some (.int .u8 r2) ∧ W.cell? ⟨G, ji * 7 + 3, none⟩ = some (.int .u8 r3) ∧ W.cell? ⟨G, ji * 7 + 4, none⟩ = some (.int .u8 r4) ∧ W.cell? ⟨G, ji * 7 + 5, none⟩ = some (.int .u8 r5) ∧ W.cell? ⟨G, ji * 7 + 6, none⟩ = some (.int .u8 r6) := by
  have h9 : ji = 0 ∨ ji = 1 ∨ ji = 2 := by omega
  rcases h9 with rfl | rfl | rfl
  · exact ⟨0, 0, 0, 0, 0, 0, 0, oct7 (by decide) (by decide) (by decide) (by decide) (by decide) (by decide) (by decide), fun W h => ⟨(cell_of_row W G 0 _ _ _ h).trans rfl, (cell_of_row W G 1 _ _ _ h).trans rfl, (cell_of_row W G 2 _ _ _ h).trans rfl, (cell_of_row W G 3 _ _ _ h).trans rfl, (cell_of_row W G 4 _ _ _ h).trans rfl, (cell_of_row W G 5 _ _ _ h).trans rfl, (cell_of_row W G 6 _ _ _ h).trans rfl⟩⟩
  · exact ⟨23, 16, 0, 1, 0, 0, 0, oct7 (by decide) (by decide) (by decide) (by decide) (by decide) (by decide) (by decide), fun W h => ⟨(cell_of_row W G 7 _ _ _ h).trans rfl, (cell_of_row W G 8 _ _ _ h).trans rfl, (cell_of_row W G 9 _ _ _ h).trans rfl, (cell_of_row W G 10 _ _ _ h).trans rfl, (cell_of_row W G 11 _ _ _ h).trans rfl, (cell_of_row W G 12 _ _ _ h).trans rfl, (cell_of_row W G 13 _ _ _ h).trans rfl⟩⟩
  · exact ⟨5, 127, 0, 0, 0, 0, 0, oct7 (by decide) (by decide) (by decide) (by decide) (by decide) (by decide) (by decide), fun W h => ⟨(cell_of_row W G 14 _ _ _ h).trans rfl, (cell_of_row W G 15 _ _ _ h).trans rfl, (cell_of_row W G 16 _ _ _ h).trans rfl, (cell_of_row W G 17 _ _ _ h).trans rfl, (cell_of_row W G 18 _ _ _ h).trans rfl, (cell_of_row W G 19 _ _ _ h).trans rfl, (cell_of_row W G 20 _ _ _ h).trans rfl⟩⟩
theorem get7 (r0 r1 r2 r3 r4 r5 r6 : Int) (j : Nat) (hj : j < 7) : (#[.int .u8 r0, .int .u8 r1, .int .u8 r2, .int .u8 r3, .int .u8 r4, .int .u8 r5, .int .u8 r6] : Array Value)[j]? = some (.int .u8 ([r0, r1, r2, r3, r4, r5, r6].getD j 0)) := by
  have h9 : j = 0 ∨ j = 1 ∨ j = 2 ∨ j = 3 ∨ j = 4 ∨ j = 5 ∨ j = 6 := by omega
  rcases h9 with rfl | rfl | rfl | rfl | rfl | rfl | rfl <;> rfl
theorem setX (W : World) (D : Nat) (zs : List Int) (n j : Nat) (v : Int) (T : TypeId) (hl : zs.length = n) (ho : Oct zs) (h : W.heap[D]? = some (.cells (zs.map (Value.int .u8)).toArray T (0, 0))) (hv : 0 ≤ v ∧ v < 256) :
    Hid (∃ zs' : List Int, zs'.length = n ∧ Oct zs' ∧ (W.setCell ⟨D, j, none⟩ (.int .u8 v)).heap[D]? = some (.cells (zs'.map (Value.int .u8)).toArray T (0, 0))) := by
  refine ⟨zs.set j v, by simpa using hl, fun m hm => ?_, ?_⟩
  · rcases List.mem_or_eq_of_mem_set hm with h1 | h1
    · exact ho m h1
    · exact h1 ▸ hv
  · rw [heap_setCell_same _ _ _ _ _ _ h]
    simp [List.map_set]
theorem setZ (W : World) (D : Nat) (zs : List Int) (n j : Nat) (v : Int) (hl : zs.length = n) (ho : Oct zs) (h : W.heap[D]? = some (.cells (zs.map (Value.int .u8)).toArray 5 (0, 0))) (hv : 0 ≤ v ∧ v < 256) :
    Hid (∃ zs' : List Int, zs'.length = n ∧ Oct zs' ∧ (W.setCell ⟨D, j, none⟩ (.int .u8 v)).heap[D]? = some (.cells (zs'.map (Value.int .u8)).toArray 5 (0, 0))) := by
  refine ⟨zs.set j v, by simpa using hl, fun m hm => ?_, ?_⟩
  · rcases List.mem_or_eq_of_mem_set hm with h1 | h1
    · exact ho m h1
    · exact h1 ▸ hv
  · rw [heap_setCell_same _ _ _ _ _ _ h]
    simp [List.map_set]
/-- A row of bytes as a block. -/
theorem rowD (W : World) (D : Nat) (zs : List Int) (n : Nat) (hl : zs.length = n) (ho : Oct zs) (h : W.heap[D]? = some (.cells (zs.map (Value.int .u8)).toArray 5 (0, 0))) : Row W (some ⟨D, 0, none⟩) n zs where
  size := hl
  oct := ho
  at_ := fun _ => ⟨D, 0, rfl, fun i hi => by
    rw [Nat.zero_add, cell_of_row W D i _ _ _ h]
    simp [List.getD_eq_getElem?_getD, hl, hi]⟩

set_option linter.unusedSimpArgs false in
set_option maxHeartbeats 16000000 in
set_option maxRecDepth 100000 in
theorem shortKnown_any
    (HR : Hid (∀ (x0 x1 x2 x3 x4 x5 x6 x7 : Int) (W : World), Oct [x0, x1, x2, x3, x4, x5, x6, x7] → Calls Try.prog 4 #[arr8 x0 x1 x2 x3 x4 x5 x6 x7] W fun e w' => e = .returned (.bool true) ∧ Below W.heap.size W w'))
    (HS : Hid (∀ (seq : Int) (last : Bool) (a : Option Addr) (len cap : Nat) (zs : List Int) (x0 x1 x2 x3 x4 x5 x6 x7 : Int) (W : World), Oct [x0, x1, x2, x3, x4, x5, x6, x7] → Row W a len zs → Calls Try.prog 6 #[.int .i64 seq, .bool last, .slice a len cap, arr8 x0 x1 x2 x3 x4 x5 x6 x7] W fun e w' => e = .returned (.bool true) ∧ Below W.heap.size W w'))
    (HW : Hid (∀ (k i s : Int) (z : Bool) (n : Int) (q : Bool) (zs : List Int) (t l c : Bool) (b e u m o : Int) (a : Option Addr) (len cap : Nat) (W : World), Cm.Ok ⟨k, i, s, z, n, q, zs, t, l, c, b, e, u, m, o⟩ → Row W a len zs → Calls Try.prog 3 #[cmV k i s z n q a len cap t l c b e u m o] W fun e w' => e = .returned (.bool true) ∧ Below W.heap.size W w'))
    (HK : Hid (∀ (k i s : Int) (z : Bool) (n : Int) (q : Bool) (zs : List Int) (t l c : Bool) (b e u m o : Int) (a : Option Addr) (len cap : Nat) (k2 i2 s2 : Int) (z2 : Bool) (n2 : Int) (q2 : Bool) (zs2 : List Int) (t2 l2 c2 : Bool) (b2 e2 u2 m2 o2 : Int) (a2 : Option Addr) (len2 cap2 : Nat) (x0 x1 x2 x3 x4 x5 x6 x7 : Int) (W : World), Cm.Ok ⟨k, i, s, z, n, q, zs, t, l, c, b, e, u, m, o⟩ → Cm.Ok ⟨k2, i2, s2, z2, n2, q2, zs2, t2, l2, c2, b2, e2, u2, m2, o2⟩ → Oct [x0, x1, x2, x3, x4, x5, x6, x7] → Row W a len zs → Row W a2 len2 zs2 → Calls Try.prog 5 #[cmV k i s z n q a len cap t l c b e u m o, cmV k2 i2 s2 z2 n2 q2 a2 len2 cap2 t2 l2 c2 b2 e2 u2 m2 o2, arr8 x0 x1 x2 x3 x4 x5 x6 x7] W fun e w' => e = .returned (.bool true) ∧ Below W.heap.size W w'))
    (HO : Hid (∀ (W : World), Calls Try.prog 14 #[] W fun e w' => e = .returned (.bool true) ∧ Below W.heap.size W w'))
    (w : World) : Calls Try.prog 7 #[] w fun e w' => e = .returned (.bool true) ∧ Below w.heap.size w w' := by
  go_enter Try.func7, Try.ntmps7
  go_wp2_with fail
  go_loopw [1] (fun i wr => ∃ q : Nat, q ≤ 86 ∧ i = .int .i64 (3 * (q : Int)) ∧ Hid (Below w.heap.size w wr)) (fun i _ => 258 - (intOf i).toNat)
  case atStart => exact ⟨0, by decide, rfl, Below.refl _ _⟩
  case round =>
    obtain ⟨q, hq, rfl, hb⟩ := hrel
    by_cases hlt : q < 86
    · obtain ⟨f, HF⟩ : ∃ f : Int, Hid (3 * (q : Int) = f) := ⟨_, rfl⟩
      have hf0 : 0 ≤ f := by have := HF.out; omega
      have hf1 : f < 256 := by have := HF.out; omega
      have HQ : Hid (q < 86) := hlt
      clear hlt hq
      rw [HF.out]
      obtain ⟨G, HGs⟩ : ∃ G, Hid (wr.heap.size = G) := ⟨_, rfl⟩
      go_wp2_with fail
      rw [HGs.out]
      go_loopw [26] (fun iv wr => ∃ ji : Nat, ji ≤ 3 ∧ iv = .int .i64 (ji : Int) ∧ Hid (Below w.heap.size w wr) ∧ Hid (wr.heap[G]? = some (.cells #[.int .u8 0, .int .u8 0, .int .u8 0, .int .u8 0, .int .u8 0, .int .u8 0, .int .u8 0, .int .u8 23, .int .u8 16, .int .u8 0, .int .u8 1, .int .u8 0, .int .u8 0, .int .u8 0, .int .u8 5, .int .u8 127, .int .u8 0, .int .u8 0, .int .u8 0, .int .u8 0, .int .u8 0] 53 (0, 0)))) (fun iv _ => 3 - (intOf iv).toNat)
      case atStart => exact ⟨0, by decide, rfl, Below.al hb.out _, at9 _ _ _ HGs.out.symm⟩
      case round =>
        obtain ⟨ji, hji, rfl, HB0, HG0⟩ := hrel
        by_cases hj3 : ji < 3
        · have hj3' : (ji : Int) < 3 := by omega
          obtain ⟨r0, r1, r2, r3, r4, r5, r6, hOR, hRW⟩ := rows9 ji hj3 G
          have OR : Hid (Oct [r0, r1, r2, r3, r4, r5, r6]) := hOR
          obtain ⟨g0, g1, g2, g3, g4, g5, g6⟩ := hRW wr HG0.out
          have HJI : Hid (ji < 3) := hj3
          clear hOR hRW hj3 hji
          go_wp2_with fail
          clear g0 g1 g2 g3 g4 g5 g6
          obtain ⟨R, HRs⟩ : ∃ R, Hid (wr.heap.size = R) := ⟨_, rfl⟩
          obtain ⟨B, HBs⟩ : ∃ B, Hid (R + 1 = B) := ⟨_, rfl⟩
          have hGR : Hid (G < R) := by show _ < _; rw [← HRs.out]; exact (Array.getElem?_eq_some_iff.1 HG0.out).1
          have hwR : Hid (w.heap.size ≤ R) := by show _ ≤ _; rw [← HRs.out]; exact HB0.out.size
          obtain ⟨W1, HW1⟩ : ∃ W1, Hid ((wr.alloc (.cells #[.int .u8 r0, .int .u8 r1, .int .u8 r2, .int .u8 r3, .int .u8 r4, .int .u8 r5, .int .u8 r6] 53)).alloc (.cells (ar8 f 0 0 0 0 0 0 0) 31) = W1) := ⟨_, rfl⟩
          have HB1 : Hid (Below w.heap.size w W1) := by show Below _ _ _; rw [← HW1.out]; exact Below.al (Below.al HB0.out _) _
          have HG1 : Hid (W1.heap[G]? = some (.cells #[.int .u8 0, .int .u8 0, .int .u8 0, .int .u8 0, .int .u8 0, .int .u8 0, .int .u8 0, .int .u8 23, .int .u8 16, .int .u8 0, .int .u8 1, .int .u8 0, .int .u8 0, .int .u8 0, .int .u8 5, .int .u8 127, .int .u8 0, .int .u8 0, .int .u8 0, .int .u8 0, .int .u8 0] 53 (0, 0))) := by show _ = _; rw [← HW1.out]; exact ext9 (ext9 HG0.out)
          have HR1 : Hid (W1.heap[R]? = some (.cells #[.int .u8 r0, .int .u8 r1, .int .u8 r2, .int .u8 r3, .int .u8 r4, .int .u8 r5, .int .u8 r6] 53 (0, 0))) := by show _ = _; rw [← HW1.out]; exact ext9 (at9 _ _ _ HRs.out.symm)
          have HX1 : Hid (∃ zs : List Int, zs.length = 8 ∧ Oct zs ∧ W1.heap[B]? = some (.cells (zs.map (Value.int .u8)).toArray 31 (0, 0))) := by show Exists _; rw [← HW1.out]; exact ⟨[f, 0, 0, 0, 0, 0, 0, 0], rfl, oct8 ⟨hf0, hf1⟩ (by decide) (by decide) (by decide) (by decide) (by decide) (by decide) (by decide), at9 _ _ _ (by rw [← HBs.out, ← HRs.out]; simp)⟩
          rw [HW1.out, HRs.out, HBs.out]
          clear HW1 HRs HG0 HB0
          go_loopw [5] (fun iv wt => ∃ j : Nat, j ≤ 7 ∧ iv = .int .i64 (j : Int) ∧ Hid (∃ zs : List Int, zs.length = 8 ∧ Oct zs ∧ wt.heap[B]? = some (.cells (zs.map (Value.int .u8)).toArray 31 (0, 0))) ∧ Hid (Below w.heap.size w wt) ∧ Hid (wt.heap[G]? = some (.cells #[.int .u8 0, .int .u8 0, .int .u8 0, .int .u8 0, .int .u8 0, .int .u8 0, .int .u8 0, .int .u8 23, .int .u8 16, .int .u8 0, .int .u8 1, .int .u8 0, .int .u8 0, .int .u8 0, .int .u8 5, .int .u8 127, .int .u8 0, .int .u8 0, .int .u8 0, .int .u8 0, .int .u8 0] 53 (0, 0))) ∧ Hid (wt.heap[R]? = some (.cells #[.int .u8 r0, .int .u8 r1, .int .u8 r2, .int .u8 r3, .int .u8 r4, .int .u8 r5, .int .u8 r6] 53 (0, 0)))) (fun iv _ => 7 - (intOf iv).toNat)
          case atStart => exact ⟨0, by decide, rfl, HX1, HB1, HG1, HR1⟩
          case round =>
            clear HX1 HB1 HG1 HR1
            obtain ⟨j, hj, rfl, HX0, HB0, HG0, HR0⟩ := hrel
            obtain ⟨zs, hzl, hzo, hzh⟩ := HX0.out
            clear HX0
            by_cases hj7 : j < 7
            · have hj7' : (j : Int) < 7 := by omega
              have hj8 : (j : Int) + 1 < 8 := by omega
              have g : wr.cell? ⟨R, j, none⟩ = some (.int .u8 ([r0, r1, r2, r3, r4, r5, r6].getD j 0)) := by rw [cell_of_row wr _ j _ _ _ HR0.out]; exact get7 r0 r1 r2 r3 r4 r5 r6 j hj7
              have hrd : 0 ≤ [r0, r1, r2, r3, r4, r5, r6].getD j 0 ∧ [r0, r1, r2, r3, r4, r5, r6].getD j 0 < 256 := OR.out.getD j
              obtain ⟨rj, HRJ⟩ : ∃ rj, Hid ([r0, r1, r2, r3, r4, r5, r6].getD j 0 = rj) := ⟨_, rfl⟩
              rw [HRJ.out] at g hrd
              have g' : wr.cell? ⟨B, j + 1, none⟩ = some (.int .u8 (zs.getD (j + 1) 0)) := by rw [cell_of_row _ _ (j + 1) _ _ _ hzh]; simp [List.getD_eq_getElem?_getD, hzl, show j + 1 < 8 by omega]
              have g'' : wr.frozen? ⟨B, j + 1, none⟩ = false := froz9 _ B (j + 1) _ _ hzh
              have HJ : Hid (j < 7) := hj7
              have HZl : Hid (zs.length = 8) := hzl
              have HZo : Hid (Oct zs) := hzo
              have HZh : Hid _ := hzh
              clear hzl hzo hzh hj7 hj
              go_wp2_with fail
              refine ⟨⟨j + 1, by have := HJ.out; omega, by go_num, setX _ _ _ _ _ _ _ HZl.out HZo.out HZh.out hrd, Below.setCell HB0.out (by have := HBs.out; have := hwR.out; show _ ≤ B; omega) _, (heap_setCell_other _ _ _ _ (by have := HBs.out; have := hGR.out; show _ ≠ B; omega)).trans HG0.out, (heap_setCell_other _ _ _ _ (by have := HBs.out; show _ ≠ B; omega)).trans HR0.out⟩, by have := HJ.out; simp [intOf]; omega⟩
            · obtain rfl : j = 7 := by omega
              match zs, hzl, hzo, hzh with
              | [x0, x1, x2, x3, x4, x5, x6, x7], _, hzo, hzh =>
              have HX : Hid (wr.heap[B]? = some (.cells (ar8 x0 x1 x2 x3 x4 x5 x6 x7) 31 (0, 0))) := hzh
              have OX : Hid (Oct [x0, x1, x2, x3, x4, x5, x6, x7]) := hzo
              clear hj7 hj
              obtain ⟨m2, hm2⟩ : ∃ m2 : Int, f.tmod 2 = m2 := ⟨_, rfl⟩
              obtain ⟨lb, hlb⟩ : ∃ lb : Bool, (m2 == 0) = lb := ⟨_, rfl⟩
              obtain ⟨n8, hn8, hm8⟩ : ∃ n8 : Nat, n8 ≤ 7 ∧ f.tmod 8 = (n8 : Int) := ⟨(f.tmod 8).toNat, by rw [Int.tmod_eq_emod_of_nonneg hf0]; omega, by rw [Int.tmod_eq_emod_of_nonneg hf0]; omega⟩
              have hsl := fun W => slice9 R n8 hn8 W
              have e5 : IntKind.i64.wrap (f - 5) = f - 5 := by simp [IntKind.wrap, IntKind.bits, IntKind.signed]; omega
              go_wp2_with fail
              refine wp_region_held_drew (S := fun x => Below w.heap.size w x ∧ x.heap[G]? = some (.cells #[.int .u8 0, .int .u8 0, .int .u8 0, .int .u8 0, .int .u8 0, .int .u8 0, .int .u8 0, .int .u8 23, .int .u8 16, .int .u8 0, .int .u8 1, .int .u8 0, .int .u8 0, .int .u8 0, .int .u8 5, .int .u8 127, .int .u8 0, .int .u8 0, .int .u8 0, .int .u8 0, .int .u8 0] 53 (0, 0)) ∧ x.heap[B]? = some (.cells (ar8 x0 x1 x2 x3 x4 x5 x6 x7) 31 (0, 0)) ∧ x.heap[R]? = some (.cells #[.int .u8 r0, .int .u8 r1, .int .u8 r2, .int .u8 r3, .int .u8 r4, .int .u8 r5, .int .u8 r6] 53 (0, 0))) (by kernel_rfl) (⟨Below.drew HB0.out, HG0.out, HX.out, HR0.out⟩) (fun hHeld => ?_)
              refine tk 0 (arr8 x0 x1 x2 x3 x4 x5 x6 x7) rfl (.inl ⟨by rfl, ?_⟩) ?_
              · intro w9 hSw
                try dsimp only at hSw
                exact ex9_load 31 (.tmp 4) rfl _ _ rfl (load8 _ _ _ _ _ _ _ _ _ _ _ hSw.2.2.1)
              try simp only [Act.put, gA, gS, gZ, sA, sZ, sS]
              refine wpAnyH_ready (rs := [1]) (by kernel_rfl) (by simp) ?_
              refine AllReadyH.cons rfl (fun K' hK => ?_) AllReadyH.nil
              rw [if_pos (by rfl)]
              simp only [gA, gS, gZ]
              go_wp2_with fail
              refine (HR.out x0 x1 x2 x3 x4 x5 x6 x7 _ OX.out).mono ?_
              rintro e z ⟨rfl, hbx⟩
              try go_wp2_with fail
              refine hK.out _ _ (⟨Below.andThen hHeld.1 hbx, blk9 hbx hHeld.2.1, blk9 hbx hHeld.2.2.1, blk9 hbx hHeld.2.2.2⟩) (fun hHeld => ?_)
              clear hK K'
              try simp only [Act.put, gA, gS, gZ, sA, sZ, sS]
              refine tk 2 (.bool false) rfl (.inl ⟨by rfl, ?_⟩) ?_
              · intro w9 hSw
                try dsimp only at hSw
                go_simp
                all_goals try decide
                all_goals try assumption
                all_goals try omega
              try simp only [Act.put, gA, gS, gZ, sA, sZ, sS]
              refine tk 3 (.bool false) rfl (.inl ⟨by rfl, ?_⟩) ?_
              · intro w9 hSw
                try dsimp only at hSw
                go_simp
                all_goals try decide
                all_goals try assumption
                all_goals try omega
              try simp only [Act.put, gA, gS, gZ, sA, sZ, sS]
              refine tk 4 (.int .i64 f) rfl (.inl ⟨by rfl, ?_⟩) ?_
              · intro w9 hSw
                try dsimp only at hSw
                go_simp
                all_goals try decide
                all_goals try assumption
                all_goals try omega
              try simp only [Act.put, gA, gS, gZ, sA, sZ, sS]
              refine tk 5 (.int .i64 (f - 5)) rfl (.inl ⟨by rfl, ?_⟩) ?_
              · intro w9 hSw
                try dsimp only at hSw
                go_simp
                all_goals try decide
                all_goals try assumption
                all_goals try omega
              try simp only [Act.put, gA, gS, gZ, sA, sZ, sS]
              refine tk 6 (.int .i64 f) rfl (.inl ⟨by rfl, ?_⟩) ?_
              · intro w9 hSw
                try dsimp only at hSw
                go_simp
                all_goals try decide
                all_goals try assumption
                all_goals try omega
              try simp only [Act.put, gA, gS, gZ, sA, sZ, sS]
              refine tk 7 (.int .i64 m2) rfl (.inl ⟨by rfl, ?_⟩) ?_
              · intro w9 hSw
                try dsimp only at hSw
                go_simp
                all_goals try decide
                all_goals try assumption
                all_goals try omega
              try simp only [Act.put, gA, gS, gZ, sA, sZ, sS]
              refine tk 8 (.bool lb) rfl (.inl ⟨by rfl, ?_⟩) ?_
              · intro w9 hSw
                try dsimp only at hSw
                go_simp
                all_goals try decide
                all_goals try assumption
                all_goals try omega
              try simp only [Act.put, gA, gS, gZ, sA, sZ, sS]
              refine tk 9 (.int .i64 f) rfl (.inl ⟨by rfl, ?_⟩) ?_
              · intro w9 hSw
                try dsimp only at hSw
                go_simp
                all_goals try decide
                all_goals try assumption
                all_goals try omega
              try simp only [Act.put, gA, gS, gZ, sA, sZ, sS]
              refine tk 10 (.int .i64 (n8 : Int)) rfl (.inl ⟨by rfl, ?_⟩) ?_
              · intro w9 hSw
                try dsimp only at hSw
                go_simp
                all_goals try decide
                all_goals try assumption
                all_goals try omega
              try simp only [Act.put, gA, gS, gZ, sA, sZ, sS]
              refine tk 11 (.slice (some ⟨R, 0, none⟩) n8 7) rfl (.inl ⟨by rfl, ?_⟩) ?_
              · intro w9 hSw
                try dsimp only at hSw
                go_simp
                all_goals try decide
                all_goals try assumption
                all_goals try omega
              try simp only [Act.put, gA, gS, gZ, sA, sZ, sS]
              refine tk 12 (arr8 x0 x1 x2 x3 x4 x5 x6 x7) rfl (.inl ⟨by rfl, ?_⟩) ?_
              · intro w9 hSw
                try dsimp only at hSw
                exact ex9_load 31 (.tmp 4) rfl _ _ rfl (load8 _ _ _ _ _ _ _ _ _ _ _ hSw.2.2.1)
              try simp only [Act.put, gA, gS, gZ, sA, sZ, sS]
              refine wpAnyH_ready (rs := [13]) (by kernel_rfl) (by simp) ?_
              refine AllReadyH.cons rfl (fun K' hK => ?_) AllReadyH.nil
              rw [if_pos (by rfl)]
              simp only [gA, gS, gZ]
              go_wp2_with fail
              refine (HS.out (f - 5) lb (some ⟨R, 0, none⟩) n8 7 _ x0 x1 x2 x3 x4 x5 x6 x7 _ OX.out (row9 r0 r1 r2 r3 r4 r5 r6 _ _ _ hn8 OR.out hHeld.2.2.2)).mono ?_
              rintro e z ⟨rfl, hbx⟩
              try go_wp2_with fail
              refine hK.out _ _ (⟨Below.andThen hHeld.1 hbx, blk9 hbx hHeld.2.1, blk9 hbx hHeld.2.2.1, blk9 hbx hHeld.2.2.2⟩) (fun hHeld => ?_)
              clear hK K'
              try simp only [Act.put, gA, gS, gZ, sA, sZ, sS]
              refine tk 14 (.bool false) rfl (.inl ⟨by rfl, ?_⟩) ?_
              · intro w9 hSw
                try dsimp only at hSw
                go_simp
                all_goals try decide
                all_goals try assumption
                all_goals try omega
              try simp only [Act.put, gA, gS, gZ, sA, sZ, sS]
              refine tk 15 (.bool false) rfl (.inl ⟨by rfl, ?_⟩) ?_
              · intro w9 hSw
                try dsimp only at hSw
                go_simp
                all_goals try decide
                all_goals try assumption
                all_goals try omega
              try simp only [Act.put, gA, gS, gZ, sA, sZ, sS]
              refine wpAnyH_done (by kernel_rfl) ?_ _
              go_wp2_with fail
              refine ⟨⟨ji + 1, by have := HJI.out; omega, by go_num, ?_, ?_⟩, by have := HJI.out; simp [intOf]; omega⟩
              · exact hHeld.1
              · exact hHeld.2.1
        · obtain rfl : ji = 3 := by omega
          go_wp2_with fail
          refine ⟨⟨q + 1, by have := HQ.out; omega, ?_, HB0⟩, ?_⟩
          · rw [← HF.out]; congr 1 <;> omega
          · rw [← HF.out]; have := HQ.out; simp [intOf]; omega
    · obtain rfl : q = 86 := by omega
      go_wp2_with fail
      obtain ⟨P, HPs⟩ : ∃ P, Hid (wr.heap.size = P) := ⟨_, rfl⟩
      go_wp2_with fail
      rw [HPs.out]
      go_loopw [7] (fun kv wr => ∃ k : Nat, k ≤ 13 ∧ kv = .int .u8 (k : Int) ∧ Hid (Below w.heap.size w wr) ∧ Hid (wr.heap[P]? = some (.cells #[.int .u16 8192, .int .u8 1] 24 (0, 0)))) (fun kv _ => 13 - (intOf kv).toNat)
      case atStart => exact ⟨0, by decide, rfl, Below.al hb.out _, at9 _ _ _ HPs.out.symm⟩
      case round =>
        clear hb HPs
        obtain ⟨k, hk, rfl, HB0, HP0⟩ := hrel
        by_cases hk12 : k < 13
        · obtain ⟨K, HKs⟩ : ∃ K : Int, Hid ((k : Int) = K) := ⟨_, rfl⟩
          have hK0 : 0 ≤ K := by have := HKs.out; omega
          have hK1 : K ≤ 12 := by have := HKs.out; omega
          have HKl : Hid (k < 13) := hk12
          clear hk12 hk
          rw [HKs.out]
          go_wp2_with fail
          go_loopw [8] (fun nv wr => ∃ n : Nat, n ≤ 9 ∧ nv = .int .i64 (n : Int) ∧ Hid (Below w.heap.size w wr) ∧ Hid (wr.heap[P]? = some (.cells #[.int .u16 8192, .int .u8 1] 24 (0, 0)))) (fun nv _ => 9 - (intOf nv).toNat)
          case atStart => exact ⟨0, by decide, rfl, HB0, HP0⟩
          case round =>
            clear HB0 HP0
            obtain ⟨n, hn, rfl, HB0, HP0⟩ := hrel
            by_cases hn8 : n < 9
            · have hn' : (n : Int) ≤ 8 := by omega
              have hn0 : 0 ≤ (n : Int) := by omega
              have HNl : Hid (n < 9) := hn8
              have MK := fun W => make9 n (by omega) W
              clear hn8 hn
              obtain ⟨D, HDs⟩ : ∃ D, Hid (wr.heap.size = D) := ⟨_, rfl⟩
              have hwD : Hid (w.heap.size ≤ D) := by show _ ≤ _; rw [← HDs.out]; exact HB0.out.size
              have hPD : Hid (P < D) := by show _ < _; rw [← HDs.out]; exact (Array.getElem?_eq_some_iff.1 HP0.out).1
              go_wp2_with fail
              rw [HDs.out]
              clear MK
              go_loopw [10] (fun jv wr => ∃ j : Nat, j ≤ n ∧ jv = .int .i64 (j : Int) ∧ Hid (∃ zs : List Int, zs.length = n ∧ Oct zs ∧ wr.heap[D]? = some (.cells (zs.map (Value.int .u8)).toArray 5 (0, 0))) ∧ Hid (Below w.heap.size w wr) ∧ Hid (wr.heap[P]? = some (.cells #[.int .u16 8192, .int .u8 1] 24 (0, 0)))) (fun jv _ => n - (intOf jv).toNat)
              case atStart => exact ⟨0, Nat.zero_le _, rfl, ⟨List.replicate n 0, by simp, fun m hm => by (have := List.eq_of_mem_replicate hm; omega), (at9 _ _ _ HDs.out.symm).trans (by rw [made9])⟩, Below.al HB0.out _, ext9 HP0.out⟩
              case round =>
                clear HB0 HP0 HDs
                obtain ⟨j, hj, rfl, HZ, HB0, HP0⟩ := hrel
                obtain ⟨zs, hzl, hzo, hzh⟩ := HZ.out
                clear HZ
                by_cases hjn : j < n
                · have hjn' : (j : Int) < (n : Int) := by omega
                  have hj7 : (j : Int) < 8 := by omega
                  have g : wr.cell? ⟨D, j, none⟩ = some (.int .u8 (zs.getD j 0)) := by rw [cell_of_row _ _ j _ _ _ hzh]; simp [List.getD_eq_getElem?_getD, hzl, hjn]
                  have g' : wr.frozen? ⟨D, j, none⟩ = false := froz9 _ D j _ _ hzh
                  have HJ : Hid (j < n) := hjn
                  have HZl : Hid (zs.length = n) := hzl
                  have HZo : Hid (Oct zs) := hzo
                  have HZh : Hid _ := hzh
                  clear hzl hzo hzh hjn hj
                  go_wp2_with fail
                  refine ⟨⟨j + 1, by have := HJ.out; omega, by go_num, setZ _ _ _ _ _ _ HZl.out HZo.out HZh.out (by constructor <;> omega), Below.setCell HB0.out hwD.out _, (heap_setCell_other _ _ _ _ (by have := hPD.out; show _ ≠ D; omega)).trans HP0.out⟩, by have := HJ.out; simp [intOf]; omega⟩
                · obtain rfl : n = j := by omega
                  have HZl : Hid (zs.length = n) := hzl
                  have HZo : Hid (Oct zs) := hzo
                  have HZh : Hid (wr.heap[D]? = some (.cells (zs.map (Value.int .u8)).toArray 5 (0, 0))) := hzh
                  clear hzl hzo hzh hjn hj
                  go_wp2_with fail
                  go_loopw [11] (fun bv wr => ∃ b : Nat, b ≤ 8 ∧ bv = .int .i64 (b : Int) ∧ Hid (Below w.heap.size w wr) ∧ Hid (wr.heap[P]? = some (.cells #[.int .u16 8192, .int .u8 1] 24 (0, 0))) ∧ Hid (wr.heap[D]? = some (.cells (zs.map (Value.int .u8)).toArray 5 (0, 0)))) (fun bv _ => 8 - (intOf bv).toNat)
                  case atStart => exact ⟨0, by decide, rfl, HB0, HP0, HZh⟩
                  case round =>
                    clear HB0 HP0 HZh
                    obtain ⟨b, hb, rfl, HB0, HP0, HZh⟩ := hrel
                    by_cases hb8 : b < 8
                    · have hb' : (b : Int) < 8 := by omega
                      have hb0 : 0 ≤ (b : Int) := by omega
                      have HBl : Hid (b < 8) := hb8
                      clear hb8 hb
                      obtain ⟨b1, hb1⟩ : ∃ x : Bool, (bits .and .i64 (b : Int) 1 == 1) = x := ⟨_, rfl⟩
                      obtain ⟨b2, hb2⟩ : ∃ x : Bool, (bits .and .i64 (b : Int) 2 == 2) = x := ⟨_, rfl⟩
                      obtain ⟨b4, hb4⟩ : ∃ x : Bool, (bits .and .i64 (b : Int) 4 == 4) = x := ⟨_, rfl⟩
                      obtain ⟨b7, hb7⟩ : ∃ x : Bool, ((b : Int) == 7) = x := ⟨_, rfl⟩
                      obtain ⟨s4, hs4, hs40, hs41⟩ : ∃ x : Int, (b : Int).tdiv 4 = x ∧ 0 ≤ x ∧ x < 4294967296 := ⟨_, rfl, by rw [Int.tdiv_eq_ediv_of_nonneg hb0]; omega, by rw [Int.tdiv_eq_ediv_of_nonneg hb0]; omega⟩
                      obtain ⟨s7, hs7, hs70, hs71⟩ : ∃ x : Int, (b : Int).tdiv 7 = x ∧ 0 ≤ x ∧ x < 10 := ⟨_, rfl, by rw [Int.tdiv_eq_ediv_of_nonneg hb0]; omega, by rw [Int.tdiv_eq_ediv_of_nonneg hb0]; omega⟩
                      have w1 : IntKind.i64.wrap ((n : Int) - 1) = (n : Int) - 1 := by simp [IntKind.wrap, IntKind.bits, IntKind.signed]; omega
                      obtain ⟨n18, hn18, hn180, hn181⟩ : ∃ x : Int, IntKind.i64.wrap (((n : Int) - 1) * 18) = x ∧ -1000 ≤ x ∧ x < 1000 := ⟨((n : Int) - 1) * 18, wrap9 _ (by omega), by omega, by omega⟩
                      obtain ⟨n16, hn16, hn160, hn161⟩ : ∃ x : Int, IntKind.i64.wrap ((n : Int) * 16) = x ∧ -1000 ≤ x ∧ x < 1000 := ⟨(n : Int) * 16, wrap9 _ (by omega), by omega, by omega⟩
                      obtain ⟨ng, hng, hng0, hng1⟩ : ∃ x : Int, IntKind.i64.wrap ((n : Int) - 1 + s7) = x ∧ -1000 ≤ x ∧ x < 1000 := ⟨(n : Int) - 1 + s7, wrap9 _ (by omega), by omega, by omega⟩
                      have okc : Hid (Cm.Ok ⟨K, 0, 0, b2, 0, b1, zs, b4, b1, false, 0, 0, 0, 0, 0⟩) := ⟨by constructor <;> (dsimp only; omega), by constructor <;> (dsimp only; omega), by constructor <;> (dsimp only; omega), by constructor <;> (dsimp only; omega), HZo.out, by constructor <;> (dsimp only; omega), by constructor <;> (dsimp only; omega), by constructor <;> (dsimp only; omega), by constructor <;> (dsimp only; omega), by constructor <;> (dsimp only; omega)⟩
                      have okd : Hid (Cm.Ok ⟨K, 8192, 1, b2, s4, b1, zs, false, false, false, 0, 0, 0, 0, 0⟩) := ⟨by constructor <;> (dsimp only; omega), by constructor <;> (dsimp only; omega), by constructor <;> (dsimp only; omega), by constructor <;> (dsimp only; omega), HZo.out, by constructor <;> (dsimp only; omega), by constructor <;> (dsimp only; omega), by constructor <;> (dsimp only; omega), by constructor <;> (dsimp only; omega), by constructor <;> (dsimp only; omega)⟩
                      have oke : Hid (Cm.Ok ⟨K, 8192, 1, b2, s4, false, [], false, false, b1, n18, 0, 0, 0, 0⟩) := ⟨by constructor <;> (dsimp only; omega), by constructor <;> (dsimp only; omega), by constructor <;> (dsimp only; omega), by constructor <;> (dsimp only; omega), oct_nil, by constructor <;> (dsimp only; omega), by constructor <;> (dsimp only; omega), by constructor <;> (dsimp only; omega), by constructor <;> (dsimp only; omega), by constructor <;> (dsimp only; omega)⟩
                      have okf : Hid (Cm.Ok ⟨K, 0, 0, false, 0, false, [], b7, false, false, n16, n18, 0, 0, 0⟩) := ⟨by constructor <;> (dsimp only; omega), by constructor <;> (dsimp only; omega), by constructor <;> (dsimp only; omega), by constructor <;> (dsimp only; omega), oct_nil, by constructor <;> (dsimp only; omega), by constructor <;> (dsimp only; omega), by constructor <;> (dsimp only; omega), by constructor <;> (dsimp only; omega), by constructor <;> (dsimp only; omega)⟩
                      have okg : Hid (Cm.Ok ⟨K, 0, 0, false, 0, false, [], false, false, false, 0, 0, 4660, ng, 0⟩) := ⟨by constructor <;> (dsimp only; omega), by constructor <;> (dsimp only; omega), by constructor <;> (dsimp only; omega), by constructor <;> (dsimp only; omega), oct_nil, by constructor <;> (dsimp only; omega), by constructor <;> (dsimp only; omega), by constructor <;> (dsimp only; omega), by constructor <;> (dsimp only; omega), by constructor <;> (dsimp only; omega)⟩
                      have oby : Hid (Oct [(b : Int), 0, 0, 0, 0, 0, 0, 0]) := oct8 ⟨hb0, by omega⟩ (by decide) (by decide) (by decide) (by decide) (by decide) (by decide) (by decide)
                      have ob2 : Hid (Oct [43, 23, 16, 0, 0, 0, 0, 0]) := oct8 (by decide) (by decide) (by decide) (by decide) (by decide) (by decide) (by decide) (by decide)
                      have ob3 : Hid (Oct [0, 0, 0, 0, 0, 0, 0, 0]) := oct8 (by decide) (by decide) (by decide) (by decide) (by decide) (by decide) (by decide) (by decide)
                      have p0 : wr.cell? ⟨P, 0, none⟩ = some (.int .u16 8192) := by rw [cell_of_row _ _ 0 _ _ _ HP0.out]; rfl
                      have p1 : wr.cell? ⟨P, 1, none⟩ = some (.int .u8 1) := by rw [cell_of_row _ _ 1 _ _ _ HP0.out]; rfl
                      have hPs : P < wr.heap.size := (Array.getElem?_eq_some_iff.1 HP0.out).1
                      obtain ⟨v0, HV⟩ : ∃ v0, Hid ((((((wr.alloc (.cells (cmC K 0 0 b2 0 b1 (some ⟨D, 0, none⟩) n n b4 b1 false 0 0 0 0 0) 29)).alloc (.cells (cmC K 8192 1 b2 s4 b1 (some ⟨D, 0, none⟩) n n false false false 0 0 0 0 0) 29)).alloc (.cells (cmC K 8192 1 b2 s4 false none 0 0 false false b1 n18 0 0 0 0) 29)).alloc (.cells (cmC K 0 0 false 0 false none 0 0 b7 false false n16 n18 0 0 0) 29)).alloc (.cells (cmC K 0 0 false 0 false none 0 0 false false false 0 0 4660 ng 0) 29)) = v0) := ⟨_, rfl⟩
                      have Hc0 : Hid (v0.heap[wr.heap.size]? = some (.cells (cmC K 0 0 b2 0 b1 (some ⟨D, 0, none⟩) n n b4 b1 false 0 0 0 0 0) 29 (0, 0))) := by show _ = _; rw [← HV.out]; exact ext9 (ext9 (ext9 (ext9 (at9 _ _ _ (by simp)))))
                      have Hd0 : Hid (v0.heap[(wr.heap.size + 1)]? = some (.cells (cmC K 8192 1 b2 s4 b1 (some ⟨D, 0, none⟩) n n false false false 0 0 0 0 0) 29 (0, 0))) := by show _ = _; rw [← HV.out]; exact ext9 (ext9 (ext9 (at9 _ _ _ (by simp))))
                      have He0 : Hid (v0.heap[(wr.heap.size + 2)]? = some (.cells (cmC K 8192 1 b2 s4 false none 0 0 false false b1 n18 0 0 0 0) 29 (0, 0))) := by show _ = _; rw [← HV.out]; exact ext9 (ext9 (at9 _ _ _ (by simp)))
                      have Hf0 : Hid (v0.heap[(wr.heap.size + 3)]? = some (.cells (cmC K 0 0 false 0 false none 0 0 b7 false false n16 n18 0 0 0) 29 (0, 0))) := by show _ = _; rw [← HV.out]; exact ext9 (at9 _ _ _ (by simp))
                      have Hg0 : Hid (v0.heap[(wr.heap.size + 4)]? = some (.cells (cmC K 0 0 false 0 false none 0 0 false false false 0 0 4660 ng 0) 29 (0, 0))) := by show _ = _; rw [← HV.out]; exact at9 _ _ _ (by simp)
                      have RD0 : Hid (Row v0 (some ⟨D, 0, none⟩) n zs) := by show Row _ _ _ _; rw [← HV.out]; exact rowD _ D zs n HZl.out HZo.out (ext9 (ext9 (ext9 (ext9 (ext9 HZh.out)))))
                      have HBC0 : Hid (Below wr.heap.size wr v0) := by show Below _ _ _; rw [← HV.out]; exact (by repeat (first | exact Below.refl _ _ | apply Below.drew | apply Below.al))
                      go_wp2_with (first | (rw [HV.out]; refine load9_w (by rfl) 29 _ rfl ⟨wr.heap.size, 0, none⟩ _ rfl (loadCM _ wr.heap.size _ _ _ _ _ _ _ _ _ _ _ _ _ _ _ _ _ _ Hc0.out) ?_))
                      with_reducible refine (HW.out K 0 0 b2 0 b1 zs b4 b1 false 0 0 0 0 0 (some ⟨D, 0, none⟩) n n _ okc.out (RD0.out)).mono ?_
                      rintro e v1 ⟨rfl, hbx⟩
                      have Hc1 : Hid (v1.heap[wr.heap.size]? = some (.cells (cmC K 0 0 b2 0 b1 (some ⟨D, 0, none⟩) n n b4 b1 false 0 0 0 0 0) 29 (0, 0))) := blk9 hbx Hc0.out
                      have Hd1 : Hid (v1.heap[(wr.heap.size + 1)]? = some (.cells (cmC K 8192 1 b2 s4 b1 (some ⟨D, 0, none⟩) n n false false false 0 0 0 0 0) 29 (0, 0))) := blk9 hbx Hd0.out
                      have He1 : Hid (v1.heap[(wr.heap.size + 2)]? = some (.cells (cmC K 8192 1 b2 s4 false none 0 0 false false b1 n18 0 0 0 0) 29 (0, 0))) := blk9 hbx He0.out
                      have Hf1 : Hid (v1.heap[(wr.heap.size + 3)]? = some (.cells (cmC K 0 0 false 0 false none 0 0 b7 false false n16 n18 0 0 0) 29 (0, 0))) := blk9 hbx Hf0.out
                      have Hg1 : Hid (v1.heap[(wr.heap.size + 4)]? = some (.cells (cmC K 0 0 false 0 false none 0 0 false false false 0 0 4660 ng 0) 29 (0, 0))) := blk9 hbx Hg0.out
                      have RD1 : Hid (Row v1 (some ⟨D, 0, none⟩) n zs) := RD0.out.next hbx
                      have HBC1 : Hid (Below wr.heap.size wr v1) := Below.andThen HBC0.out hbx
                      clear hbx Hc0 Hd0 He0 Hf0 Hg0 RD0 HBC0
                      go_wp2_with (first | (refine load9_w (by rfl) 29 _ rfl ⟨wr.heap.size, 0, none⟩ _ rfl (loadCM _ wr.heap.size _ _ _ _ _ _ _ _ _ _ _ _ _ _ _ _ _ _ Hc1.out) ?_) | (refine load9_w (by rfl) 29 _ rfl ⟨(wr.heap.size + 1), 0, none⟩ _ rfl (loadCM _ (wr.heap.size + 1) _ _ _ _ _ _ _ _ _ _ _ _ _ _ _ _ _ _ Hd1.out) ?_) | (refine load9_w (by rfl) 29 _ rfl ⟨(wr.heap.size + 2), 0, none⟩ _ rfl (loadCM _ (wr.heap.size + 2) _ _ _ _ _ _ _ _ _ _ _ _ _ _ _ _ _ _ He1.out) ?_) | (refine load9_w (by rfl) 29 _ rfl ⟨(wr.heap.size + 3), 0, none⟩ _ rfl (loadCM _ (wr.heap.size + 3) _ _ _ _ _ _ _ _ _ _ _ _ _ _ _ _ _ _ Hf1.out) ?_) | (refine load9_w (by rfl) 29 _ rfl ⟨(wr.heap.size + 4), 0, none⟩ _ rfl (loadCM _ (wr.heap.size + 4) _ _ _ _ _ _ _ _ _ _ _ _ _ _ _ _ _ _ Hg1.out) ?_))
                      with_reducible refine (HW.out K 8192 1 b2 s4 b1 zs false false false 0 0 0 0 0 (some ⟨D, 0, none⟩) n n _ okd.out (RD1.out)).mono ?_
                      rintro e v2 ⟨rfl, hbx⟩
                      have Hc2 : Hid (v2.heap[wr.heap.size]? = some (.cells (cmC K 0 0 b2 0 b1 (some ⟨D, 0, none⟩) n n b4 b1 false 0 0 0 0 0) 29 (0, 0))) := blk9 hbx Hc1.out
                      have Hd2 : Hid (v2.heap[(wr.heap.size + 1)]? = some (.cells (cmC K 8192 1 b2 s4 b1 (some ⟨D, 0, none⟩) n n false false false 0 0 0 0 0) 29 (0, 0))) := blk9 hbx Hd1.out
                      have He2 : Hid (v2.heap[(wr.heap.size + 2)]? = some (.cells (cmC K 8192 1 b2 s4 false none 0 0 false false b1 n18 0 0 0 0) 29 (0, 0))) := blk9 hbx He1.out
                      have Hf2 : Hid (v2.heap[(wr.heap.size + 3)]? = some (.cells (cmC K 0 0 false 0 false none 0 0 b7 false false n16 n18 0 0 0) 29 (0, 0))) := blk9 hbx Hf1.out
                      have Hg2 : Hid (v2.heap[(wr.heap.size + 4)]? = some (.cells (cmC K 0 0 false 0 false none 0 0 false false false 0 0 4660 ng 0) 29 (0, 0))) := blk9 hbx Hg1.out
                      have RD2 : Hid (Row v2 (some ⟨D, 0, none⟩) n zs) := RD1.out.next hbx
                      have HBC2 : Hid (Below wr.heap.size wr v2) := Below.andThen HBC1.out hbx
                      clear hbx Hc1 Hd1 He1 Hf1 Hg1 RD1 HBC1
                      go_wp2_with (first | (refine load9_w (by rfl) 29 _ rfl ⟨wr.heap.size, 0, none⟩ _ rfl (loadCM _ wr.heap.size _ _ _ _ _ _ _ _ _ _ _ _ _ _ _ _ _ _ Hc2.out) ?_) | (refine load9_w (by rfl) 29 _ rfl ⟨(wr.heap.size + 1), 0, none⟩ _ rfl (loadCM _ (wr.heap.size + 1) _ _ _ _ _ _ _ _ _ _ _ _ _ _ _ _ _ _ Hd2.out) ?_) | (refine load9_w (by rfl) 29 _ rfl ⟨(wr.heap.size + 2), 0, none⟩ _ rfl (loadCM _ (wr.heap.size + 2) _ _ _ _ _ _ _ _ _ _ _ _ _ _ _ _ _ _ He2.out) ?_) | (refine load9_w (by rfl) 29 _ rfl ⟨(wr.heap.size + 3), 0, none⟩ _ rfl (loadCM _ (wr.heap.size + 3) _ _ _ _ _ _ _ _ _ _ _ _ _ _ _ _ _ _ Hf2.out) ?_) | (refine load9_w (by rfl) 29 _ rfl ⟨(wr.heap.size + 4), 0, none⟩ _ rfl (loadCM _ (wr.heap.size + 4) _ _ _ _ _ _ _ _ _ _ _ _ _ _ _ _ _ _ Hg2.out) ?_))
                      with_reducible refine (HW.out K 8192 1 b2 s4 false [] false false b1 n18 0 0 0 0 none 0 0 _ oke.out (row_nil _)).mono ?_
                      rintro e v3 ⟨rfl, hbx⟩
                      have Hc3 : Hid (v3.heap[wr.heap.size]? = some (.cells (cmC K 0 0 b2 0 b1 (some ⟨D, 0, none⟩) n n b4 b1 false 0 0 0 0 0) 29 (0, 0))) := blk9 hbx Hc2.out
                      have Hd3 : Hid (v3.heap[(wr.heap.size + 1)]? = some (.cells (cmC K 8192 1 b2 s4 b1 (some ⟨D, 0, none⟩) n n false false false 0 0 0 0 0) 29 (0, 0))) := blk9 hbx Hd2.out
                      have He3 : Hid (v3.heap[(wr.heap.size + 2)]? = some (.cells (cmC K 8192 1 b2 s4 false none 0 0 false false b1 n18 0 0 0 0) 29 (0, 0))) := blk9 hbx He2.out
                      have Hf3 : Hid (v3.heap[(wr.heap.size + 3)]? = some (.cells (cmC K 0 0 false 0 false none 0 0 b7 false false n16 n18 0 0 0) 29 (0, 0))) := blk9 hbx Hf2.out
                      have Hg3 : Hid (v3.heap[(wr.heap.size + 4)]? = some (.cells (cmC K 0 0 false 0 false none 0 0 false false false 0 0 4660 ng 0) 29 (0, 0))) := blk9 hbx Hg2.out
                      have RD3 : Hid (Row v3 (some ⟨D, 0, none⟩) n zs) := RD2.out.next hbx
                      have HBC3 : Hid (Below wr.heap.size wr v3) := Below.andThen HBC2.out hbx
                      clear hbx Hc2 Hd2 He2 Hf2 Hg2 RD2 HBC2
                      go_wp2_with (first | (refine load9_w (by rfl) 29 _ rfl ⟨wr.heap.size, 0, none⟩ _ rfl (loadCM _ wr.heap.size _ _ _ _ _ _ _ _ _ _ _ _ _ _ _ _ _ _ Hc3.out) ?_) | (refine load9_w (by rfl) 29 _ rfl ⟨(wr.heap.size + 1), 0, none⟩ _ rfl (loadCM _ (wr.heap.size + 1) _ _ _ _ _ _ _ _ _ _ _ _ _ _ _ _ _ _ Hd3.out) ?_) | (refine load9_w (by rfl) 29 _ rfl ⟨(wr.heap.size + 2), 0, none⟩ _ rfl (loadCM _ (wr.heap.size + 2) _ _ _ _ _ _ _ _ _ _ _ _ _ _ _ _ _ _ He3.out) ?_) | (refine load9_w (by rfl) 29 _ rfl ⟨(wr.heap.size + 3), 0, none⟩ _ rfl (loadCM _ (wr.heap.size + 3) _ _ _ _ _ _ _ _ _ _ _ _ _ _ _ _ _ _ Hf3.out) ?_) | (refine load9_w (by rfl) 29 _ rfl ⟨(wr.heap.size + 4), 0, none⟩ _ rfl (loadCM _ (wr.heap.size + 4) _ _ _ _ _ _ _ _ _ _ _ _ _ _ _ _ _ _ Hg3.out) ?_))
                      with_reducible refine (HW.out K 0 0 false 0 false [] b7 false false n16 n18 0 0 0 none 0 0 _ okf.out (row_nil _)).mono ?_
                      rintro e v4 ⟨rfl, hbx⟩
                      have Hc4 : Hid (v4.heap[wr.heap.size]? = some (.cells (cmC K 0 0 b2 0 b1 (some ⟨D, 0, none⟩) n n b4 b1 false 0 0 0 0 0) 29 (0, 0))) := blk9 hbx Hc3.out
                      have Hd4 : Hid (v4.heap[(wr.heap.size + 1)]? = some (.cells (cmC K 8192 1 b2 s4 b1 (some ⟨D, 0, none⟩) n n false false false 0 0 0 0 0) 29 (0, 0))) := blk9 hbx Hd3.out
                      have He4 : Hid (v4.heap[(wr.heap.size + 2)]? = some (.cells (cmC K 8192 1 b2 s4 false none 0 0 false false b1 n18 0 0 0 0) 29 (0, 0))) := blk9 hbx He3.out
                      have Hf4 : Hid (v4.heap[(wr.heap.size + 3)]? = some (.cells (cmC K 0 0 false 0 false none 0 0 b7 false false n16 n18 0 0 0) 29 (0, 0))) := blk9 hbx Hf3.out
                      have Hg4 : Hid (v4.heap[(wr.heap.size + 4)]? = some (.cells (cmC K 0 0 false 0 false none 0 0 false false false 0 0 4660 ng 0) 29 (0, 0))) := blk9 hbx Hg3.out
                      have RD4 : Hid (Row v4 (some ⟨D, 0, none⟩) n zs) := RD3.out.next hbx
                      have HBC4 : Hid (Below wr.heap.size wr v4) := Below.andThen HBC3.out hbx
                      clear hbx Hc3 Hd3 He3 Hf3 Hg3 RD3 HBC3
                      go_wp2_with (first | (refine load9_w (by rfl) 29 _ rfl ⟨wr.heap.size, 0, none⟩ _ rfl (loadCM _ wr.heap.size _ _ _ _ _ _ _ _ _ _ _ _ _ _ _ _ _ _ Hc4.out) ?_) | (refine load9_w (by rfl) 29 _ rfl ⟨(wr.heap.size + 1), 0, none⟩ _ rfl (loadCM _ (wr.heap.size + 1) _ _ _ _ _ _ _ _ _ _ _ _ _ _ _ _ _ _ Hd4.out) ?_) | (refine load9_w (by rfl) 29 _ rfl ⟨(wr.heap.size + 2), 0, none⟩ _ rfl (loadCM _ (wr.heap.size + 2) _ _ _ _ _ _ _ _ _ _ _ _ _ _ _ _ _ _ He4.out) ?_) | (refine load9_w (by rfl) 29 _ rfl ⟨(wr.heap.size + 3), 0, none⟩ _ rfl (loadCM _ (wr.heap.size + 3) _ _ _ _ _ _ _ _ _ _ _ _ _ _ _ _ _ _ Hf4.out) ?_) | (refine load9_w (by rfl) 29 _ rfl ⟨(wr.heap.size + 4), 0, none⟩ _ rfl (loadCM _ (wr.heap.size + 4) _ _ _ _ _ _ _ _ _ _ _ _ _ _ _ _ _ _ Hg4.out) ?_))
                      with_reducible refine (HW.out K 0 0 false 0 false [] false false false 0 0 4660 ng 0 none 0 0 _ okg.out (row_nil _)).mono ?_
                      rintro e v5 ⟨rfl, hbx⟩
                      have Hc5 : Hid (v5.heap[wr.heap.size]? = some (.cells (cmC K 0 0 b2 0 b1 (some ⟨D, 0, none⟩) n n b4 b1 false 0 0 0 0 0) 29 (0, 0))) := blk9 hbx Hc4.out
                      have Hd5 : Hid (v5.heap[(wr.heap.size + 1)]? = some (.cells (cmC K 8192 1 b2 s4 b1 (some ⟨D, 0, none⟩) n n false false false 0 0 0 0 0) 29 (0, 0))) := blk9 hbx Hd4.out
                      have He5 : Hid (v5.heap[(wr.heap.size + 2)]? = some (.cells (cmC K 8192 1 b2 s4 false none 0 0 false false b1 n18 0 0 0 0) 29 (0, 0))) := blk9 hbx He4.out
                      have Hf5 : Hid (v5.heap[(wr.heap.size + 3)]? = some (.cells (cmC K 0 0 false 0 false none 0 0 b7 false false n16 n18 0 0 0) 29 (0, 0))) := blk9 hbx Hf4.out
                      have Hg5 : Hid (v5.heap[(wr.heap.size + 4)]? = some (.cells (cmC K 0 0 false 0 false none 0 0 false false false 0 0 4660 ng 0) 29 (0, 0))) := blk9 hbx Hg4.out
                      have RD5 : Hid (Row v5 (some ⟨D, 0, none⟩) n zs) := RD4.out.next hbx
                      have HBC5 : Hid (Below wr.heap.size wr v5) := Below.andThen HBC4.out hbx
                      clear hbx Hc4 Hd4 He4 Hf4 Hg4 RD4 HBC4
                      go_wp2_with (first | (refine load9_w (by rfl) 29 _ rfl ⟨wr.heap.size, 0, none⟩ _ rfl (loadCM _ wr.heap.size _ _ _ _ _ _ _ _ _ _ _ _ _ _ _ _ _ _ Hc5.out) ?_) | (refine load9_w (by rfl) 29 _ rfl ⟨(wr.heap.size + 1), 0, none⟩ _ rfl (loadCM _ (wr.heap.size + 1) _ _ _ _ _ _ _ _ _ _ _ _ _ _ _ _ _ _ Hd5.out) ?_) | (refine load9_w (by rfl) 29 _ rfl ⟨(wr.heap.size + 2), 0, none⟩ _ rfl (loadCM _ (wr.heap.size + 2) _ _ _ _ _ _ _ _ _ _ _ _ _ _ _ _ _ _ He5.out) ?_) | (refine load9_w (by rfl) 29 _ rfl ⟨(wr.heap.size + 3), 0, none⟩ _ rfl (loadCM _ (wr.heap.size + 3) _ _ _ _ _ _ _ _ _ _ _ _ _ _ _ _ _ _ Hf5.out) ?_) | (refine load9_w (by rfl) 29 _ rfl ⟨(wr.heap.size + 4), 0, none⟩ _ rfl (loadCM _ (wr.heap.size + 4) _ _ _ _ _ _ _ _ _ _ _ _ _ _ _ _ _ _ Hg5.out) ?_))
                      with_reducible refine (HK.out K 0 0 b2 0 b1 zs b4 b1 false 0 0 0 0 0 (some ⟨D, 0, none⟩) n n K 8192 1 b2 s4 b1 zs false false false 0 0 0 0 0 (some ⟨D, 0, none⟩) n n (b : Int) 0 0 0 0 0 0 0 _ okc.out okd.out oby.out (RD5.out) (RD5.out)).mono ?_
                      rintro e v6 ⟨rfl, hbx⟩
                      have Hc6 : Hid (v6.heap[wr.heap.size]? = some (.cells (cmC K 0 0 b2 0 b1 (some ⟨D, 0, none⟩) n n b4 b1 false 0 0 0 0 0) 29 (0, 0))) := blk9 hbx Hc5.out
                      have Hd6 : Hid (v6.heap[(wr.heap.size + 1)]? = some (.cells (cmC K 8192 1 b2 s4 b1 (some ⟨D, 0, none⟩) n n false false false 0 0 0 0 0) 29 (0, 0))) := blk9 hbx Hd5.out
                      have He6 : Hid (v6.heap[(wr.heap.size + 2)]? = some (.cells (cmC K 8192 1 b2 s4 false none 0 0 false false b1 n18 0 0 0 0) 29 (0, 0))) := blk9 hbx He5.out
                      have Hf6 : Hid (v6.heap[(wr.heap.size + 3)]? = some (.cells (cmC K 0 0 false 0 false none 0 0 b7 false false n16 n18 0 0 0) 29 (0, 0))) := blk9 hbx Hf5.out
                      have Hg6 : Hid (v6.heap[(wr.heap.size + 4)]? = some (.cells (cmC K 0 0 false 0 false none 0 0 false false false 0 0 4660 ng 0) 29 (0, 0))) := blk9 hbx Hg5.out
                      have RD6 : Hid (Row v6 (some ⟨D, 0, none⟩) n zs) := RD5.out.next hbx
                      have HBC6 : Hid (Below wr.heap.size wr v6) := Below.andThen HBC5.out hbx
                      clear hbx Hc5 Hd5 He5 Hf5 Hg5 RD5 HBC5
                      go_wp2_with (first | (refine load9_w (by rfl) 29 _ rfl ⟨wr.heap.size, 0, none⟩ _ rfl (loadCM _ wr.heap.size _ _ _ _ _ _ _ _ _ _ _ _ _ _ _ _ _ _ Hc6.out) ?_) | (refine load9_w (by rfl) 29 _ rfl ⟨(wr.heap.size + 1), 0, none⟩ _ rfl (loadCM _ (wr.heap.size + 1) _ _ _ _ _ _ _ _ _ _ _ _ _ _ _ _ _ _ Hd6.out) ?_) | (refine load9_w (by rfl) 29 _ rfl ⟨(wr.heap.size + 2), 0, none⟩ _ rfl (loadCM _ (wr.heap.size + 2) _ _ _ _ _ _ _ _ _ _ _ _ _ _ _ _ _ _ He6.out) ?_) | (refine load9_w (by rfl) 29 _ rfl ⟨(wr.heap.size + 3), 0, none⟩ _ rfl (loadCM _ (wr.heap.size + 3) _ _ _ _ _ _ _ _ _ _ _ _ _ _ _ _ _ _ Hf6.out) ?_) | (refine load9_w (by rfl) 29 _ rfl ⟨(wr.heap.size + 4), 0, none⟩ _ rfl (loadCM _ (wr.heap.size + 4) _ _ _ _ _ _ _ _ _ _ _ _ _ _ _ _ _ _ Hg6.out) ?_))
                      with_reducible refine (HK.out K 8192 1 b2 s4 false [] false false b1 n18 0 0 0 0 none 0 0 K 0 0 false 0 false [] b7 false false n16 n18 0 0 0 none 0 0 43 23 16 0 0 0 0 0 _ oke.out okf.out ob2.out (row_nil _) (row_nil _)).mono ?_
                      rintro e v7 ⟨rfl, hbx⟩
                      have Hc7 : Hid (v7.heap[wr.heap.size]? = some (.cells (cmC K 0 0 b2 0 b1 (some ⟨D, 0, none⟩) n n b4 b1 false 0 0 0 0 0) 29 (0, 0))) := blk9 hbx Hc6.out
                      have Hd7 : Hid (v7.heap[(wr.heap.size + 1)]? = some (.cells (cmC K 8192 1 b2 s4 b1 (some ⟨D, 0, none⟩) n n false false false 0 0 0 0 0) 29 (0, 0))) := blk9 hbx Hd6.out
                      have He7 : Hid (v7.heap[(wr.heap.size + 2)]? = some (.cells (cmC K 8192 1 b2 s4 false none 0 0 false false b1 n18 0 0 0 0) 29 (0, 0))) := blk9 hbx He6.out
                      have Hf7 : Hid (v7.heap[(wr.heap.size + 3)]? = some (.cells (cmC K 0 0 false 0 false none 0 0 b7 false false n16 n18 0 0 0) 29 (0, 0))) := blk9 hbx Hf6.out
                      have Hg7 : Hid (v7.heap[(wr.heap.size + 4)]? = some (.cells (cmC K 0 0 false 0 false none 0 0 false false false 0 0 4660 ng 0) 29 (0, 0))) := blk9 hbx Hg6.out
                      have RD7 : Hid (Row v7 (some ⟨D, 0, none⟩) n zs) := RD6.out.next hbx
                      have HBC7 : Hid (Below wr.heap.size wr v7) := Below.andThen HBC6.out hbx
                      clear hbx Hc6 Hd6 He6 Hf6 Hg6 RD6 HBC6
                      go_wp2_with (first | (refine load9_w (by rfl) 29 _ rfl ⟨wr.heap.size, 0, none⟩ _ rfl (loadCM _ wr.heap.size _ _ _ _ _ _ _ _ _ _ _ _ _ _ _ _ _ _ Hc7.out) ?_) | (refine load9_w (by rfl) 29 _ rfl ⟨(wr.heap.size + 1), 0, none⟩ _ rfl (loadCM _ (wr.heap.size + 1) _ _ _ _ _ _ _ _ _ _ _ _ _ _ _ _ _ _ Hd7.out) ?_) | (refine load9_w (by rfl) 29 _ rfl ⟨(wr.heap.size + 2), 0, none⟩ _ rfl (loadCM _ (wr.heap.size + 2) _ _ _ _ _ _ _ _ _ _ _ _ _ _ _ _ _ _ He7.out) ?_) | (refine load9_w (by rfl) 29 _ rfl ⟨(wr.heap.size + 3), 0, none⟩ _ rfl (loadCM _ (wr.heap.size + 3) _ _ _ _ _ _ _ _ _ _ _ _ _ _ _ _ _ _ Hf7.out) ?_) | (refine load9_w (by rfl) 29 _ rfl ⟨(wr.heap.size + 4), 0, none⟩ _ rfl (loadCM _ (wr.heap.size + 4) _ _ _ _ _ _ _ _ _ _ _ _ _ _ _ _ _ _ Hg7.out) ?_))
                      with_reducible refine (HK.out K 0 0 false 0 false [] false false false 0 0 4660 ng 0 none 0 0 K 0 0 false 0 false [] false false false 0 0 4660 ng 0 none 0 0 0 0 0 0 0 0 0 0 _ okg.out okg.out ob3.out (row_nil _) (row_nil _)).mono ?_
                      rintro e v8 ⟨rfl, hbx⟩
                      have Hc8 : Hid (v8.heap[wr.heap.size]? = some (.cells (cmC K 0 0 b2 0 b1 (some ⟨D, 0, none⟩) n n b4 b1 false 0 0 0 0 0) 29 (0, 0))) := blk9 hbx Hc7.out
                      have Hd8 : Hid (v8.heap[(wr.heap.size + 1)]? = some (.cells (cmC K 8192 1 b2 s4 b1 (some ⟨D, 0, none⟩) n n false false false 0 0 0 0 0) 29 (0, 0))) := blk9 hbx Hd7.out
                      have He8 : Hid (v8.heap[(wr.heap.size + 2)]? = some (.cells (cmC K 8192 1 b2 s4 false none 0 0 false false b1 n18 0 0 0 0) 29 (0, 0))) := blk9 hbx He7.out
                      have Hf8 : Hid (v8.heap[(wr.heap.size + 3)]? = some (.cells (cmC K 0 0 false 0 false none 0 0 b7 false false n16 n18 0 0 0) 29 (0, 0))) := blk9 hbx Hf7.out
                      have Hg8 : Hid (v8.heap[(wr.heap.size + 4)]? = some (.cells (cmC K 0 0 false 0 false none 0 0 false false false 0 0 4660 ng 0) 29 (0, 0))) := blk9 hbx Hg7.out
                      have RD8 : Hid (Row v8 (some ⟨D, 0, none⟩) n zs) := RD7.out.next hbx
                      have HBC8 : Hid (Below wr.heap.size wr v8) := Below.andThen HBC7.out hbx
                      clear hbx Hc7 Hd7 He7 Hf7 Hg7 RD7 HBC7
                      go_wp2_with fail
                      first
                        | (refine ⟨⟨b + 1, by have := HBl.out; omega, by go_num, Below.andThen HB0.out HBC8.out, blk9 HBC8.out HP0.out, blk9 HBC8.out HZh.out⟩, ?_⟩; (have := HBl.out; simp [intOf]; omega; done))
                        | (refine ⟨?_, ?_⟩
                           · (repeat apply Exists.intro)
                             refine ⟨?_, rfl⟩
                             exact ⟨b + 1, by have := HBl.out; omega, by go_num, Below.andThen HB0.out HBC8.out, blk9 HBC8.out HP0.out, blk9 HBC8.out HZh.out⟩
                           · have := HBl.out; simp [intOf]; omega)
                    · obtain rfl : b = 8 := by omega
                      go_wp2_with fail
                      first
                        | (refine ⟨⟨n + 1, by have := HNl.out; omega, by go_num, HB0, HP0⟩, ?_⟩; (have := HNl.out; simp [intOf]; omega; done))
                        | (refine ⟨?_, ?_⟩
                           · (repeat apply Exists.intro)
                             refine ⟨?_, rfl⟩
                             exact ⟨n + 1, by have := HNl.out; omega, by go_num, HB0, HP0⟩
                           · have := HNl.out; simp [intOf]; omega)
            · obtain rfl : n = 9 := by omega
              have p0 : wr.cell? ⟨P, 0, none⟩ = some (.int .u16 8192) := by rw [cell_of_row _ _ 0 _ _ _ HP0.out]; rfl
              have p1 : wr.cell? ⟨P, 1, none⟩ = some (.int .u8 1) := by rw [cell_of_row _ _ 1 _ _ _ HP0.out]; rfl
              have oh1 : Hid (Cm.Ok ⟨K, 8192, 1, false, 0, false, [], false, false, false, 0, 0, 0, 0, 100794368⟩) := ⟨by constructor <;> (dsimp only; omega), by constructor <;> (dsimp only; omega), by constructor <;> (dsimp only; omega), by constructor <;> (dsimp only; omega), oct_nil, by constructor <;> (dsimp only; omega), by constructor <;> (dsimp only; omega), by constructor <;> (dsimp only; omega), by constructor <;> (dsimp only; omega), by constructor <;> (dsimp only; omega)⟩
              have oh2 : Hid (Cm.Ok ⟨K, 8192, 1, false, 0, false, [], false, false, false, 0, 0, 0, 0, 0⟩) := ⟨by constructor <;> (dsimp only; omega), by constructor <;> (dsimp only; omega), by constructor <;> (dsimp only; omega), by constructor <;> (dsimp only; omega), oct_nil, by constructor <;> (dsimp only; omega), by constructor <;> (dsimp only; omega), by constructor <;> (dsimp only; omega), by constructor <;> (dsimp only; omega), by constructor <;> (dsimp only; omega)⟩
              have oh3 : Hid (Cm.Ok ⟨K, 0, 0, false, 0, false, [], false, false, false, 0, 0, 0, 0, 0⟩) := ⟨by constructor <;> (dsimp only; omega), by constructor <;> (dsimp only; omega), by constructor <;> (dsimp only; omega), by constructor <;> (dsimp only; omega), oct_nil, by constructor <;> (dsimp only; omega), by constructor <;> (dsimp only; omega), by constructor <;> (dsimp only; omega), by constructor <;> (dsimp only; omega), by constructor <;> (dsimp only; omega)⟩
              go_wp2_with fail
              with_reducible refine (HW.out K 8192 1 false 0 false [] false false false 0 0 0 0 100794368 none 0 0 _ oh1.out (row_nil _)).mono ?_
              rintro e v1 ⟨rfl, hbx⟩
              have HP1 : Hid (v1.heap[P]? = some (.cells #[.int .u16 8192, .int .u8 1] 24 (0, 0))) := blk9 hbx HP0.out
              have HB1 : Hid (Below w.heap.size w v1) := Below.andThen HB0.out hbx
              clear hbx p0 p1
              have p0 : v1.cell? ⟨P, 0, none⟩ = some (.int .u16 8192) := by rw [cell_of_row _ _ 0 _ _ _ HP1.out]; rfl
              have p1 : v1.cell? ⟨P, 1, none⟩ = some (.int .u8 1) := by rw [cell_of_row _ _ 1 _ _ _ HP1.out]; rfl
              go_wp2_with fail
              with_reducible refine (HW.out K 8192 1 false 0 false [] false false false 0 0 0 0 0 none 0 0 _ oh2.out (row_nil _)).mono ?_
              rintro e v2 ⟨rfl, hbx⟩
              have HP2 : Hid (v2.heap[P]? = some (.cells #[.int .u16 8192, .int .u8 1] 24 (0, 0))) := blk9 hbx HP1.out
              have HB2 : Hid (Below w.heap.size w v2) := Below.andThen HB1.out hbx
              clear hbx p0 p1
              go_wp2_with fail
              with_reducible refine (HW.out K 0 0 false 0 false [] false false false 0 0 0 0 0 none 0 0 _ oh3.out (row_nil _)).mono ?_
              rintro e v3 ⟨rfl, hbx⟩
              have HP3 : Hid (v3.heap[P]? = some (.cells #[.int .u16 8192, .int .u8 1] 24 (0, 0))) := blk9 hbx HP2.out
              have HB3 : Hid (Below w.heap.size w v3) := Below.andThen HB2.out hbx
              clear hbx
              go_wp2_with fail
              first
                | (refine ⟨⟨k + 1, by have := HKl.out; omega, by rw [← HKs.out]; congr 1 <;> omega, HB3, HP3⟩, ?_⟩; (rw [← HKs.out]; have := HKl.out; simp [intOf]; omega; done))
                | (refine ⟨?_, ?_⟩
                   · (repeat apply Exists.intro)
                     refine ⟨?_, rfl⟩
                     exact ⟨k + 1, by have := HKl.out; omega, by rw [← HKs.out]; congr 1 <;> omega, HB3, HP3⟩
                   · rw [← HKs.out]; have := HKl.out; simp [intOf]; omega)
        · obtain rfl : k = 13 := by omega
          go_wp2_with fail
          with_reducible refine (HO.out _).mono ?_
          rintro e v ⟨rfl, hbx⟩
          go_wp2_with fail
          go_ret
          exact ⟨rfl, Below.andThen HB0.out hbx⟩
#print axioms shortKnown_any
end Go.Proofs.Ytlnlejdjekbipaa
namespace Go.Proofs.Ytlnlejdjekbipaa
open Go.RowKit

theorem b8_ok {x0 x1 x2 x3 x4 x5 x6 x7 : Int} (h : Oct [x0, x1, x2, x3, x4, x5, x6, x7]) : B8.Ok ⟨x0, x1, x2, x3, x4, x5, x6, x7⟩ := ⟨h _ (by simp), h _ (by simp), h _ (by simp), h _ (by simp), h _ (by simp), h _ (by simp), h _ (by simp), h _ (by simp)⟩
theorem shortKnown_all (w : World) : Calls Try.prog 7 #[] w fun e w' => e = .returned (.bool true) ∧ Below w.heap.size w w' :=
  shortKnown_any
    (fun x0 x1 x2 x3 x4 x5 x6 x7 W h => shortReads_any ⟨x0, x1, x2, x3, x4, x5, x6, x7⟩ (b8_ok h) W)
    (fun seq last a len cap zs x0 x1 x2 x3 x4 x5 x6 x7 W h hr => shortSegments_any seq last a len cap zs ⟨x0, x1, x2, x3, x4, x5, x6, x7⟩ (b8_ok h) W hr)
    (fun k i s z n q zs t l c b e u m o a len cap W ok hr => by
      obtain rfl : zs.length = len := hr.size
      exact shortWrites_any ⟨k, i, s, z, n, q, zs, t, l, c, b, e, u, m, o⟩ ok a cap W hr)
    (fun k i s z n q zs t l c b e u m o a len cap k2 i2 s2 z2 n2 q2 zs2 t2 l2 c2 b2 e2 u2 m2 o2 a2 len2 cap2 x0 x1 x2 x3 x4 x5 x6 x7 W ok ok2 h hr hr2 => by
      obtain rfl : zs.length = len := hr.size
      obtain rfl : zs2.length = len2 := hr2.size
      exact shortBack_any ⟨k, i, s, z, n, q, zs, t, l, c, b, e, u, m, o⟩ ⟨k2, i2, s2, z2, n2, q2, zs2, t2, l2, c2, b2, e2, u2, m2, o2⟩ ok ok2 ⟨x0, x1, x2, x3, x4, x5, x6, x7⟩ (b8_ok h) a cap a2 cap2 W hr hr2)
    (fun W => works_any W) w
#print axioms shortKnown_all
end Go.Proofs.Ytlnlejdjekbipaa
namespace Go.Proofs.Ytlnlejdjekbipaa
open Go.ChangeShapes Go.WideShapes Go.ChangeAt Go.RowKit
open Go.ChangeMaps (open_string shut_string)

namespace shortKnown
theorem own : ownKnob Try.prog.godebug = none := by kernel_rfl
theorem laidOut : laidOutB Try.prog = true := by kernel_rfl
theorem cellsU8 : Try.prog.cellsOf 5 = 1 := by kernel_rfl
theorem reads (os : Os) {H : Type} (enc : TypeId × Value → H) : ∃ places, DataW.whole enc Try.prog ((World.holding Try.prog os ⟨#[], #[], []⟩).forCall (fun _ _ => 0) ⟨#[], #[], []⟩).memory Try.f7.params.toList Rows.shortKnownSpec.vars false (#[] : Array Value).toList 8 = some ([], [], places) :=
  ⟨[], by kernel_rfl⟩

set_option maxRecDepth 100000 in
theorem contract (H : Type) (enc : TypeId × Value → H) (W : World) (base : Nat) (args : Array Value) (ds gs : List (DataW H)) (before : List MemPlace)
    (hval : ∀ (j : Nat) t v, Try.f7.params[j]? = some t → args[j]? = some v → Value.okWide Try.prog W .any base t v)
    (hW : DataW.Whole enc Try.prog Try.f7.params.toList Rows.shortKnownSpec.vars false W args.toList ds gs before) :
    Calls Try.prog 7 args W fun e W' => ∃ v, e = .returned v ∧ Rows.shortKnownSpec.post enc Try.prog Try.f7 false true false false W args v W' := by
  have hW' := hW
  obtain ⟨p, q, hA0, hV, rfl, hfz, hnd⟩ := hW
  have hA : DataW.TrodAll enc Try.prog W 0 (fun _ => true) true Try.f7.params.toList args.toList ds p := hA0
  rw [Try.params7] at hA hval
  obtain ⟨hargs, rfl, rfl⟩ := trodAll_nil hA
  obtain rfl : args = #[] := by cases args; simp_all
  obtain ⟨rfl, rfl⟩ := trodVars_none hV
  clear hA0
  simp only [List.append_nil] at hW'
  refine (shortKnown_all W).mono fun e W' ⟨he, bel⟩ => ?_
  subst he
  exact ⟨_, rfl, _, _, _, [], _, [], hW', trodAll_mk1 (shut_bool Try.underlying4 _), trodAll_mk0, rfl, bel.frame _, fun h => by cases h⟩

set_option maxRecDepth 100000 in
theorem lifted (os : Os) (started : os.Started) (H : Type) (enc : TypeId × Value → H) (F : Stop.Interp) :
    ReturnsInHanded {} Try.checked os 7 .any ((OpenSpec.ofChange Rows.shortKnownSpec).preRow enc Try.prog Try.f7 Rows.shortKnownRow.domain false Rows.shortKnownRow.laid) (((OpenSpec.ofChange Rows.shortKnownSpec).at F).post enc Try.prog Try.f7 false true false false) := by
  obtain ⟨places, hx⟩ := reads os enc
  refine returnsInHanded_of_row (C := Try.checked) (s := OpenSpec.ofChange Rows.shortKnownSpec) own started (by kernel_rfl) Try.func7
    (witness_row_at (enc := enc) (C := Try.checked) false (World.holding Try.prog os ⟨#[], #[], []⟩) #[] rfl (by kernel_rfl) (by kernel_rfl) (by kernel_rfl)
      (OpenSpec.preRow_of_cond 8 hx (by kernel_rfl) (fun k hk => by cases hk) (by kernel_rfl) (laidMet_of_run' 8 (by kernel_rfl) (by kernel_rfl)))) ?_
  intro W base args ds gs before hval hW _ _ _ _ _ _
  exact contract H enc W base args ds gs before hval hW
end shortKnown

/-- ShortKnown, for every input. -/
theorem shortKnown_holds : Rows.ShortKnownSaid :=
  OpenClaim.holds_of_cond 7 Try.f7 rfl rfl rfl rfl rfl rfl rfl ⟨rfl, rfl, rfl, rfl, rfl⟩ rfl rfl rfl rfl rfl (by kernel_rfl) Try.func7 (by kernel_rfl)
    (of_decide_eq_true (by kernel_rfl)) (by unfold Func.isWrapper; first | (rw [if_pos (by decide +kernel)]; kernel_rfl) | (rw [if_neg (by decide +kernel)]; exact ⟨rfl, rfl⟩))
    (fun os started H enc _ F => by rw [OpenClaim.pre_eq_preRow]; exact shortKnown.lifted os started H enc F)
#print axioms shortKnown_holds
end Go.Proofs.Ytlnlejdjekbipaa
