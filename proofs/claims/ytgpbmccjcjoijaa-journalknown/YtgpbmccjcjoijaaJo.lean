/-
  The walk of Open.
-/
import Derived.Test.YtgpbmccjcjoijaaJn
import Derived.Test.YtgpbmccjcjoijaaJ2
namespace Go.Proofs.Ytgpbmccjcjoijaa
open Go.RowKit

theorem wpList_build73 {ops : Array Oper} {rest : List Oper} {o : Oper} {a : Act} {w : World} {Q : Exit → Act → World → Prop} (hgd : o.guard = none) (x y z : Operand) (ho : o.op = .build 73 #[(0, x), (1, y), (2, z)]) (A B C : Array Value) (hx : a.eval x = .agg A) (hy : a.eval y = .agg B) (hz : a.eval z = .agg C) (hA : A.size = 6) (hB : B.size = 3) (hC : C.size = 48)
    (h : wpList Try.prog ops Q rest (a.put o.dst (.agg (A.toList ++ (B.toList ++ (C.toList ++ [Value.bool false]))).toArray)) w) : wpList Try.prog ops Q (o :: rest) a w := by
  refine wpList_val hgd ?_ h
  simp only [execOp, ho, Sem.run_bind, Sem.run_pure, Result.andThen_ok, List.map_toArray, List.map_cons, List.map_nil, hx, hy, hz, run_build73 A B C hA hB hC w]
theorem wpList_box73 {ops : Array Oper} {rest : List Oper} {o : Oper} {a : Act} {w : World} {Q : Exit → Act → World → Prop} (hgd : o.guard = none) (x : Operand) (ho : o.op = .box 73 x) (C : Array Value) (hx : a.eval x = .agg C)
    (h : wpList Try.prog ops Q rest (a.put o.dst (.pointer (some ⟨w.heap.size, 0, none⟩))) (w.alloc (.cells C 73))) : wpList Try.prog ops Q (o :: rest) a w := by
  refine wpList_val hgd ?_ h
  have : (Instr.box 73 (.agg C)).run Try.prog w = .ok (.pointer (some ⟨w.heap.size, 0, none⟩)) (w.alloc (.cells C 73)) := by simp [Instr.box, newVar, go_sem]
  simp only [execOp, ho, Sem.run_bind, Sem.run_pure, Result.andThen_ok, hx, this]
theorem store_new68 (W : World) (all : List Gp) (ss : List SL) (h1 : all.length = 16) (h2 : ss.length = 16) : (storeVar 68 ⟨W.heap.size, 0, none⟩ (.agg (gflat all ss).toArray)).run Try.prog (W.alloc (.cells z48 68)) = .ok () (W.alloc (.cells (gflat all ss).toArray 68)) := by
  have := store68 (W := W.alloc (.cells z48 68)) (C := z48) rfl (heap_alloc_new W _) all ss h1 h2
  rw [this, World.setRow_alloc_new]
theorem look_num {b : List Int} (ho : Oct b) : 0 ≤ (look b).num ∧ (look b).num < 256 := by
  by_cases hb : begunR (recs b) = true
  · rw [look_of (Parts.of ho) hb]
    cases hr : recs b with
    | nil => simp [numR]
    | cons r rs =>
      have := (Parts.of ho).ok r (by rw [hr]; simp)
      exact this.oct.getD 0
  · rw [look_not (by simpa using hb)]
    exact ⟨Int.le_refl 0, by show (0 : Int) < 256; decide⟩

theorem IsG.freshq {w w' : World} {S : List Nat} {all : List Gp} {ss : List SL} (h : IsG w S all ss) (hb : Below w.heap.size w w') : IsG w' (w.heap.size :: S) all ss := ⟨h.n1, h.n2, fun i g s h1 h2 => by
  obtain ⟨r, l, hn⟩ := h.row i g s h1 h2
  refine ⟨r.next hb, l, fun hp b off e hm => ?_⟩
  rcases List.mem_cons.1 hm with h0 | hm
  · have := r.old hp b off e
    omega
  · exact hn hp b off e hm⟩

set_option linter.unusedSimpArgs false in
set_option maxHeartbeats 4000000 in
set_option maxRecDepth 100000 in
theorem open_ok {w : World} {p B n cap : Nat} {s : FS} (h : IsS w p B n cap s) (ho : s.of = false) (first count : Nat) (hc : 2 ≤ count) (hf : first + count ≤ n) (S : List Nat) (hS : ∀ x ∈ S, x < w.heap.size) :
    Calls Try.prog 11 #[.pointer (some ⟨p, 0, none⟩), .int .i64 first, .int .i64 count] w fun e w' => (∃ q, e = .returned (.tuple #[.pointer (some ⟨q, 0, none⟩), .int .i64 0]) ∧ w.heap.size ≤ q ∧ IsJ w' (q :: S) q p first (count / 2) (opn s.cs first (count / 2))) ∧ Below w.heap.size w w' := by
  have hn2 := h.n2
  have SE := sectors_any h
  obtain ⟨K, hK⟩ : ∃ K, Hid (count / 2 = K) := ⟨_, rfl⟩
  rw [hK.out]
  have K1 : 1 ≤ K := by rw [← hK.out]; omega
  have K2 : first + K + K ≤ n := by rw [← hK.out]; omega
  have e1 : (count : Int) / 2 = (K : Int) := by rw [← hK.out]; omega
  obtain ⟨F2, hF2⟩ : ∃ F2, Hid (first + K = F2) := ⟨_, rfl⟩
  have e2 : (first : Int) + (K : Int) = (F2 : Int) := by rw [← hF2.out]; omega
  have L1 := lookAt_any h ho first K (by omega) (by omega) S hS
  have L2 : Hid (∀ z, Below w.heap.size w z → Calls Try.prog 33 #[.agg #[.pointer (some ⟨p, 0, none⟩), .int .i64 (F2 : Int), .int .i64 (K : Int)]] z fun e w' => (∃ ss, e = .returned (.tuple #[.agg (half6 p F2 K (look (part s.cs F2 K)).bg (look (part s.cs F2 K)).num (look (part s.cs F2 K)).en).toArray, .agg (gflat (look (part s.cs F2 K)).gs ss).toArray, .int .i64 0]) ∧ IsG w' S (look (part s.cs F2 K)).gs ss) ∧ Below z.heap.size z w') := fun z hz => lookAt_any (h.next hz) ho F2 K (by omega) (by rw [← hF2.out]; omega) S (fun x hx => by have := hS x hx; have := hz.size; omega)
  have U1 := look_num (part_oct h.oct first K)
  have U2 := look_num (part_oct h.oct F2 K)
  have OP : Hid (opn s.cs first K = if newerB (look (part s.cs F2 K)) (look (part s.cs first K)) then ofLK true (look (part s.cs F2 K)) else ofLK false (look (part s.cs first K))) := by show _ = _; rw [← hF2.out]; rfl
  generalize look (part s.cs first K) = lo at *
  generalize look (part s.cs F2 K) = hi at *
  have g1 : (2 : Int) ≤ count := by omega
  have g1' : ¬ (count : Int) < 2 := by omega
  have g2 : (first : Int) + count ≤ n := by omega
  have g3 : (n : Int) ≤ 64 := by omega
  have g4 : ¬ (n : Int) - first < count := by omega
  obtain ⟨lbg, lnum, len_, lgs⟩ := lo
  obtain ⟨hbg, hnum, hen_, hgs⟩ := hi
  dsimp only at L1 L2 U1 U2
  clear h ho
  go_enter Try.func11, Try.ntmps11
  go_wp2_with fail
  with_reducible refine SE.mono ?_
  rintro e w ⟨rfl, rfl⟩
  clear SE
  go_wp2_with fail
  with_reducible refine L1.mono ?_
  rintro e Y ⟨⟨s1, rfl, I1⟩, b1⟩
  clear L1
  have ST1 := store_new68 (Y.alloc (.cells (half6 p first K lbg lnum len_).toArray 64)) lgs s1 I1.n1 I1.n2
  rw [World.size_alloc] at ST1
  have bY2 : Below w.heap.size w ((Y.alloc (.cells (half6 p first K lbg lnum len_).toArray 64)).alloc (.cells (gflat lgs s1).toArray 68)) := Below.al (Below.al b1 _) _
  have h8 : ((Y.alloc (.cells (half6 p first K lbg lnum len_).toArray 64)).alloc (.cells (gflat lgs s1).toArray 68)).heap[Y.heap.size]? = some (.cells (half6 p first K lbg lnum len_).toArray 64 (0, 0)) := by
    rw [Below.heap_alloc _ _ _ (by simp)]; exact heap_alloc_new Y _
  have h9 : GB ((Y.alloc (.cells (half6 p first K lbg lnum len_).toArray 64)).alloc (.cells (gflat lgs s1).toArray 68)) (Y.heap.size + 1) lgs s1 := by
    have := heap_alloc_new (Y.alloc (.cells (half6 p first K lbg lnum len_).toArray 64)) (.cells (gflat lgs s1).toArray 68)
    rwa [World.size_alloc] at this
  have I1' := (I1.next (Below.al (Below.al (Below.refl _ _) (.cells (half6 p first K lbg lnum len_).toArray 64)) (.cells (gflat lgs s1).toArray 68)))
  have LL := L2.out _ bY2
  have zY : w.heap.size ≤ Y.heap.size := b1.size
  clear b1 L2 I1
  go_wp2_with (first | refine wpList_alloc68 rfl rfl ?_ | refine wpList_store_by rfl 68 (.tmp 9) (.tmp 39) rfl _ _ rfl rfl ST1 ?_)
  clear ST1
  generalize ((Y.alloc (.cells (half6 p first K lbg lnum len_).toArray 64)).alloc (.cells (gflat lgs s1).toArray 68)) = Z at *
  with_reducible refine LL.mono ?_
  rintro e X ⟨⟨s2, rfl, I2⟩, b2⟩
  clear LL
  have ST2 := store_new68 (X.alloc (.cells (half6 p F2 K hbg hnum hen_).toArray 64)) hgs s2 I2.n1 I2.n2
  rw [World.size_alloc] at ST2
  have zX : Y.heap.size + 1 < X.heap.size := by have := lt_of_heap h9; have := b2.size; omega
  have KX : Kp [] X ((X.alloc (.cells (half6 p F2 K hbg hnum hen_).toArray 64)).alloc (.cells (gflat hgs s2).toArray 68)) := ((Kp.refl [] X).al _).al _
  have KZ : Kp [] Z ((X.alloc (.cells (half6 p F2 K hbg hnum hen_).toArray 64)).alloc (.cells (gflat hgs s2).toArray 68)) := (Kp.of b2).trans KX
  have bV : Below w.heap.size w ((X.alloc (.cells (half6 p F2 K hbg hnum hen_).toArray 64)).alloc (.cells (gflat hgs s2).toArray 68)) := Below.al (Below.al (Below.andThen bY2 b2) _) _
  have v8 := (KZ.block _ (lt_of_heap h8) (by simp)).trans h8
  have v9 : GB ((X.alloc (.cells (half6 p F2 K hbg hnum hen_).toArray 64)).alloc (.cells (gflat hgs s2).toArray 68)) (Y.heap.size + 1) lgs s1 := (KZ.block _ (lt_of_heap h9) (by simp)).trans h9
  have v11 : ((X.alloc (.cells (half6 p F2 K hbg hnum hen_).toArray 64)).alloc (.cells (gflat hgs s2).toArray 68)).heap[X.heap.size]? = some (.cells (half6 p F2 K hbg hnum hen_).toArray 64 (0, 0)) := by
    rw [Below.heap_alloc _ _ _ (by simp)]; exact heap_alloc_new X _
  have v12 : GB ((X.alloc (.cells (half6 p F2 K hbg hnum hen_).toArray 64)).alloc (.cells (gflat hgs s2).toArray 68)) (X.heap.size + 1) hgs s2 := by
    have := heap_alloc_new (X.alloc (.cells (half6 p F2 K hbg hnum hen_).toArray 64)) (.cells (gflat hgs s2).toArray 68)
    rwa [World.size_alloc] at this
  have J1 := I1'.next KZ.bel
  have J2 := I2.next KX.bel
  clear I1' I2 KX KZ b2 bY2 h8 h9
  go_wp2_with (first | refine wpList_alloc68 rfl rfl ?_ | refine wpList_store_by rfl 68 (.tmp 12) (.tmp 55) rfl _ _ rfl rfl ST2 ?_ | (refine wpList_load_by rfl 64 (.tmp 11) rfl _ _ rfl (load64 v11) ?_) | (refine wpList_load_by rfl 64 (.tmp 8) rfl _ _ rfl (load64 v8) ?_))
  clear ST2
  generalize ((X.alloc (.cells (half6 p F2 K hbg hnum hen_).toArray 64)).alloc (.cells (gflat hgs s2).toArray 68)) = V at *
  have NW := newer_any p F2 K hbg hnum hen_ first K lbg lnum len_ hgs lgs U2 U1 V
  with_reducible refine NW.mono ?_
  rintro e T ⟨rfl, bT⟩
  clear NW
  have t8 := (bT.block _ (lt_of_heap v8)).trans v8
  have t9 : GB T (Y.heap.size + 1) lgs s1 := (bT.block _ (lt_of_heap v9)).trans v9
  have t11 := (bT.block _ (lt_of_heap v11)).trans v11
  have t12 : GB T (X.heap.size + 1) hgs s2 := (bT.block _ (lt_of_heap v12)).trans v12
  have T1 := J1.next bT
  have T2 := J2.next bT
  have bwT : Below w.heap.size w T := Below.andThen bV bT
  have wT : w.heap.size ≤ T.heap.size := bwT.size
  have x8 : T.cell? ⟨Y.heap.size, 0, none⟩ = some (.pointer (some ⟨p, 0, none⟩)) ∧ T.cell? ⟨Y.heap.size, 1, none⟩ = some (.int .i64 (first : Int)) ∧ T.cell? ⟨Y.heap.size, 2, none⟩ = some (.int .i64 (K : Int)) := ⟨by rw [cell_of_row T _ _ _ _ _ t8]; rfl, by rw [cell_of_row T _ _ _ _ _ t8]; rfl, by rw [cell_of_row T _ _ _ _ _ t8]; rfl⟩
  have x11 : T.cell? ⟨X.heap.size, 0, none⟩ = some (.pointer (some ⟨p, 0, none⟩)) ∧ T.cell? ⟨X.heap.size, 1, none⟩ = some (.int .i64 (F2 : Int)) ∧ T.cell? ⟨X.heap.size, 2, none⟩ = some (.int .i64 (K : Int)) := ⟨by rw [cell_of_row T _ _ _ _ _ t11]; rfl, by rw [cell_of_row T _ _ _ _ _ t11]; rfl, by rw [cell_of_row T _ _ _ _ _ t11]; rfl⟩
  obtain ⟨x80, x81, x82⟩ := x8
  obtain ⟨x110, x111, x112⟩ := x11
  have G1 := gflat48 lgs s1 T1.n1 T1.n2
  have G2 := gflat48 hgs s2 T2.n1 T2.n2
  have LA := load64 t11
  have LB := load64 t8
  have LC := load68 T2.n1 T2.n2 t12
  have LD := load68 T1.n1 T1.n2 t9
  clear bT bV J1 J2 v8 v9 v11 v12 t8 t9 t11 t12
  cases hb : newerB ⟨hbg, hnum, hen_, hgs⟩ ⟨lbg, lnum, len_, lgs⟩ with
  | true =>
    have FIN : Hid (IsJ (T.alloc (.cells ((half6 p F2 K hbg hnum hen_) ++ (rg3 p first K ++ (gflat hgs s2 ++ [Value.bool false]))).toArray 73)) (T.heap.size :: S) T.heap.size p first K (opn s.cs first K)) := by
      have e := OP.out
      rw [hb, if_pos rfl] at e
      rw [e]
      refine ⟨s2, ?_, T2.freshq (Below.al (Below.refl _ _) _)⟩
      have e9 := heap_alloc_new T (.cells ((half6 p F2 K hbg hnum hen_) ++ (rg3 p first K ++ (gflat hgs s2 ++ [Value.bool false]))).toArray 73)
      rw [← hF2.out] at e9 ⊢
      exact e9
    have HB : Hid (newerB ⟨hbg, hnum, hen_, hgs⟩ ⟨lbg, lnum, len_, lgs⟩ = true) := hb
    clear T1 T2 hb OP
    go_wp2_with (first | (refine wpList_load_by rfl 64 (.tmp 11) rfl _ _ rfl LA ?_) | (refine wpList_load_by rfl 68 (.tmp 12) rfl _ _ rfl LC ?_) | (refine wpList_build73 rfl (.tmp 63) (.tmp 65) (.tmp 66) rfl (half6 p F2 K hbg hnum hen_).toArray (rg3 p first K).toArray (gflat hgs s2).toArray rfl rfl rfl rfl rfl (by rw [List.size_toArray, G2]) ?_) | (refine wpList_box73 rfl (.tmp 67) rfl _ rfl ?_))
    go_ret2
    exact ⟨⟨_, rfl, wT, FIN.out⟩, Below.al bwT _⟩
  | false =>
    have FIN : Hid (IsJ (T.alloc (.cells ((half6 p first K lbg lnum len_) ++ (rg3 p F2 K ++ (gflat lgs s1 ++ [Value.bool false]))).toArray 73)) (T.heap.size :: S) T.heap.size p first K (opn s.cs first K)) := by
      have e := OP.out
      rw [hb, if_neg (by decide)] at e
      rw [e]
      refine ⟨s1, ?_, T1.freshq (Below.al (Below.refl _ _) _)⟩
      have e9 := heap_alloc_new T (.cells ((half6 p first K lbg lnum len_) ++ (rg3 p F2 K ++ (gflat lgs s1 ++ [Value.bool false]))).toArray 73)
      rw [← hF2.out] at e9 ⊢
      exact e9
    clear T1 T2 hb OP
    go_wp2_with (first | (refine wpList_load_by rfl 64 (.tmp 8) rfl _ _ rfl LB ?_) | (refine wpList_load_by rfl 68 (.tmp 9) rfl _ _ rfl LD ?_) | (refine wpList_build73 rfl (.tmp 69) (.tmp 71) (.tmp 72) rfl (half6 p first K lbg lnum len_).toArray (rg3 p F2 K).toArray (gflat lgs s1).toArray rfl rfl rfl rfl rfl (by rw [List.size_toArray, G1]) ?_) | (refine wpList_box73 rfl (.tmp 73) rfl _ rfl ?_))
    go_ret2
    exact ⟨⟨_, rfl, wT, FIN.out⟩, Below.al bwT _⟩
#print axioms open_ok
end Go.Proofs.Ytgpbmccjcjoijaa
