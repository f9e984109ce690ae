/-
  The walks of slices.Repeat of a sector, and of New.
-/
import Derived.Test.YtgpbmccjcjoijaaFk
import Derived.Test.YtgpbmccjcjoijaaShelf
namespace Go.Proofs.Ytgpbmccjcjoijaa
open Go.RowKit

/-- A copy of whole sectors. -/
theorem copy_wide (w : World) (ty : TypeId) (g o dLen dCap : Nat) (a : Addr) (sLen sCap m : Nat) (cur : Array Value) (t : TypeId) (cs : List Value)
    (hg : w.heap[g]? = some (.cells cur t (0, 0))) (hm : m = Nat.min sLen dLen) (hn : cs.length = m * 1024)
    (hsrc : ∀ j v, cs[j]? = some v → w.cell? (a.add j) = some v) (hfit : o + cs.length ≤ cur.size) (h1 : ∀ v ∈ cs, v.oneCell' = true) :
    (Builtin.copy_ #[87, 87] ty #[.slice (some ⟨g, o, none⟩) dLen dCap, .slice (some a) sLen sCap]).run Try.prog w = .ok (.int .i64 (m : Int)) (w.setRow g (put cur.toList o cs).toArray) := by
  have hl := run_loadCells_list (P := Try.prog) w a cs hsrc
  have hst := run_storeCells_at Try.prog g o t cs 0 cur w hg (by simpa using hfit) h1
  obtain ⟨i, hi, _, hz1, _⟩ := info_parts info57
  simp [Builtin.copy_, run_underlying Try.underlying87, Builtin.lenOf, Builtin.firstCells, sizeOf, typeInfo, hi, hz1, ← hm, ← hn, hl, hst, goInt, put]
theorem wp_copy_by {o : Oper} {a : Act} {w w' : World} {K : Act → World → Prop} {Q : Exit → Act → World → Prop} (x y : Operand)
    (ho : o.op = .call { callee := .builtin .copy, args := #[x, y], argTypes := #[87, 87] }) (vx vy v : Value) (hx : a.eval x = vx) (hy : a.eval y = vy)
    (hr : ∀ ty, (Builtin.copy_ #[87, 87] ty #[vx, vy]).run Try.prog w = .ok v w') (h : K (a.put o.dst v) w') : o.wp Try.prog a w K Q := by
  unfold Oper.wp execOp
  simp only [ho, resolve, invoke, builtin, Sem.run_bind, Sem.run_pure, Result.andThen_ok, List.map_toArray, List.map_cons, List.map_nil, hx, hy, hr]
  exact h
theorem wpList_copy_by {ops : Array Oper} {rest : List Oper} {o : Oper} {a : Act} {w w' : World} {Q : Exit → Act → World → Prop} (hgd : o.guard = none) (x y : Operand)
    (ho : o.op = .call { callee := .builtin .copy, args := #[x, y], argTypes := #[87, 87] }) (vx vy v : Value) (hx : a.eval x = vx) (hy : a.eval y = vy)
    (hr : ∀ ty, (Builtin.copy_ #[87, 87] ty #[vx, vy]).run Try.prog w = .ok v w') (h : wpList Try.prog ops Q rest (a.put o.dst v) w') : wpList Try.prog ops Q (o :: rest) a w :=
  wpList_plain hgd fun _ hK => wp_copy_by x y ho vx vy v hx hy hr (hK _ _ h)

/-- So many bytes 255, as cells. -/
def V5 (m : Nat) : List Value := List.replicate m (.int .u8 255)
theorem V5_len (m : Nat) : (V5 m).length = m := List.length_replicate
theorem V5_one (m : Nat) : ∀ v ∈ V5 m, v.oneCell' = true := fun v hv => by rw [V5, List.mem_replicate] at hv; rw [hv.2]; rfl
theorem V5_at (m j : Nat) (v : Value) (h : (V5 m)[j]? = some v) : j < m ∧ v = .int .u8 255 := by
  rw [V5, List.getElem?_replicate] at h
  split at h
  · rename_i hj; exact ⟨hj, (Option.some.inj h).symm⟩
  · cases h
theorem V5_put (l : List Value) (m c : Nat) (h : l.take m = V5 m) : (put l m (V5 c)).take (m + c) = V5 (m + c) := by
  unfold put
  rw [h, V5_len, List.take_append_of_le_length (by rw [List.length_append, V5_len, V5_len]; exact Nat.le_refl _), List.take_of_length_le (by rw [List.length_append, V5_len, V5_len]; exact Nat.le_refl _)]
  simp [V5, List.replicate_append_replicate]
theorem ff_V5 : ff.map (Value.int .u8) = V5 1024 := by unfold ff V5; rw [List.map_replicate]

theorem mul_any (n : Nat) (h : n ≤ 64) (w : World) : Calls Try.prog 61 #[.int .u64 1, .int .u64 (n : Int)] w fun e w' => e = .returned (.tuple #[.int .u64 0, .int .u64 (n : Int)]) ∧ w' = w := by
  have := Try.bits_Mul 1 n (by decide) (by omega) w
  rw [Nat.one_mul, Nat.div_eq_of_lt (by omega), Nat.mod_eq_of_lt (by omega)] at this
  exact this

set_option linter.unusedSimpArgs false in
set_option maxHeartbeats 4000000 in
set_option maxRecDepth 100000 in
theorem repeat_any (n g : Nat) (hn1 : 1 ≤ n) (hn : n ≤ 64) (w : World) (tg : TypeId) (hg : w.heap[g]? = some (.cells (V5 1024).toArray tg (0, 0))) :
    Calls Try.prog 45 #[.slice (some ⟨g, 0, none⟩) 1 1, .int .i64 (n : Int)] w fun e w' => e = .returned (.slice (some ⟨w.heap.size, 0, none⟩) n n) ∧ w'.heap[w.heap.size]? = some (.cells (V5 (n * 1024)).toArray 92 (0, 0)) ∧ Below w.heap.size w w' := by
  obtain ⟨i0, hi, hz0, hz1, hz2⟩ := info_parts info57
  have hgl := lt_of_heap hg
  obtain ⟨N, hN⟩ : ∃ N : Int, Hid (N = (n : Int)) := ⟨_, rfl⟩
  have MU := fun w => mul_any n hn w
  rw [← hN.out] at MU ⊢
  have g0 : ¬ N < 0 := by rw [hN.out]; omega
  have g9 : ¬ (9223372036854775807 : Int) < N := by rw [hN.out]; omega
  have w1' : IntKind.u64.wrap N = N := by rw [hN.out, IntKind.wrap_u64]; omega
  have w2' : IntKind.i64.wrap N = N := by rw [hN.out, IntKind.wrap_i64]; omega
  go_enter Try.func45, Try.ntmps45
  go_wp2_with fail
  refine (MU _).mono ?_
  rintro e w ⟨rfl, rfl⟩
  clear MU
  go_wp2_with (at_make; refine wpList_make_full _ rfl _ _ 87 rfl w.heap.size 92 i0 _ 1024 Try.underlying87 hi hz0 hz1 .i64 .i64 N N n rfl rfl hN.out hN.out (by rw [hz2]; omega) (by unfold maxLen; omega) (Nat.le_refl _) ?_)
  intro w1 hown hgrow
  have hb1 : Below w.heap.size w w1 := (Below.refl _ _).grown hgrow (Nat.le_refl _) (fun j hj => by cases hj)
  obtain ⟨cur, hc1, hc2⟩ : ∃ cur, w1.heap[w.heap.size]? = some (.cells cur 92 (0, 0)) ∧ cur.size = n * 1024 := by
    rcases hown.2 with ⟨h, _⟩ | ⟨g', cap', cur, hv, _, hg', _, _, hs, _⟩
    · cases h
    · cases hv; exact ⟨cur, hg', hs⟩
  have HC := fun ty => copy_wide w1 ty w.heap.size 0 n n ⟨g, 0, none⟩ 1 1 1 cur 92 (V5 1024) hc1 (by simp [Nat.min_def]; omega) (V5_len _) (fun j v hv => by
    obtain ⟨hj, rfl⟩ := V5_at _ _ _ hv
    rw [Addr.add_lit, hb1.cell (p := ⟨g, 0 + j, none⟩) hgl, cell_of_row w g _ _ _ _ hg, List.getElem?_toArray, V5, List.getElem?_replicate, if_pos (by omega)]) (by rw [V5_len, hc2]; omega) (V5_one _)
  have hc3 := setRow_heap w1 w.heap.size cur (put cur.toList 0 (V5 1024)).toArray 92 (0, 0) hc1
  have hp0 : (put cur.toList 0 (V5 1024)).take (1 * 1024) = V5 (1 * 1024) := by
    have := V5_put cur.toList 0 1024 (by simp [V5])
    simpa using this
  have hp1 : (put cur.toList 0 (V5 1024)).toArray.size = n * 1024 := by rw [List.size_toArray, put_len _ _ _ (by rw [V5_len]; simp [hc2]; omega)]; simp [hc2]
  have hb2 : Below w.heap.size w (w1.setRow w.heap.size (put cur.toList 0 (V5 1024)).toArray) := ((Kp.of (S := []) hb1).row _ _ (.inr (Nat.le_refl _))).bel
  clear hown hgrow hc1
  go_wp2_with (refine wpList_copy_by rfl (.tmp 31) (.tmp 32) rfl _ _ _ rfl rfl HC ?_)
  clear HC
  have INIT : Hid (∃ m : Nat, ∃ cur2 : Array Value, 1 ≤ m ∧ m ≤ n ∧ Value.int .i64 1 = .int .i64 (m : Int) ∧ (w1.setRow w.heap.size (put cur.toList 0 (V5 1024)).toArray).heap[w.heap.size]? = some (.cells cur2 92 (0, 0)) ∧ cur2.size = n * 1024 ∧ cur2.toList.take (m * 1024) = V5 (m * 1024) ∧ Below w.heap.size w (w1.setRow w.heap.size (put cur.toList 0 (V5 1024)).toArray)) := ⟨1, _, Nat.le_refl _, hn1, rfl, hc3, hp1, hp0, hb2⟩
  clear hc2 hc3 hp0 hp1 hb1 hb2
  go_loopw [8] (fun v wr => ∃ m : Nat, ∃ cur2 : Array Value, 1 ≤ m ∧ m ≤ n ∧ v = .int .i64 (m : Int) ∧ wr.heap[w.heap.size]? = some (.cells cur2 92 (0, 0)) ∧ cur2.size = n * 1024 ∧ cur2.toList.take (m * 1024) = V5 (m * 1024) ∧ Below w.heap.size w wr)
    (fun v _ => n - (intOf v).toNat)
  case atStart => exact INIT.out
  case round =>
    clear INIT
    obtain ⟨m, cur2, hm1, hm2, rfl, hc, hs, ht, hb⟩ := hrel
    by_cases h : m < n
    · have gm : (m : Int) < (n : Int) := by omega
      obtain ⟨c, hcc⟩ : ∃ c, Hid (c = Nat.min m (n - m)) := ⟨_, rfl⟩
      have nm : ¬ n = m := by omega
      have hc1 : 1 ≤ c ∧ c ≤ m ∧ m + c ≤ n := by rw [hcc.out]; simp [Nat.min_def]; split <;> omega
      have WW : IntKind.i64.wrap ((m : Int) + (c : Int)) = (m : Int) + (c : Int) := by rw [IntKind.wrap_i64]; omega
      have gm2 : (m : Int) ≤ (n : Int) := by omega
      have HC := fun ty => copy_wide wr.drew ty w.heap.size (m * 1024) (n - m) (n - m) ⟨w.heap.size, 0, none⟩ m n c cur2 92 (V5 (c * 1024)) hc hcc.out (V5_len _) (fun j v hv => by
        obtain ⟨hj, rfl⟩ := V5_at _ _ _ hv
        rw [Addr.add_lit, Nat.zero_add, cell_of_row wr.drew w.heap.size _ _ _ _ hc]
        have e := congrArg (fun l => l[j]?) ht
        simp only [List.getElem?_take, V5, List.getElem?_replicate] at e
        rw [if_pos (by omega), if_pos (by omega)] at e
        simpa using e) (by rw [V5_len, hs]; omega) (V5_one _)
      have hc3 := setRow_heap wr.drew w.heap.size cur2 (put cur2.toList (m * 1024) (V5 (c * 1024))).toArray 92 (0, 0) hc
      have hp0 : (put cur2.toList (m * 1024) (V5 (c * 1024))).take ((m + c) * 1024) = V5 ((m + c) * 1024) := by
        rw [Nat.add_mul]; exact V5_put cur2.toList (m * 1024) (c * 1024) ht
      have hp1 : (put cur2.toList (m * 1024) (V5 (c * 1024))).toArray.size = n * 1024 := by rw [List.size_toArray, put_len _ _ _ (by rw [V5_len]; simp [hs]; omega)]; simp [hs]
      have hb2 : Below w.heap.size w (wr.drew.setRow w.heap.size (put cur2.toList (m * 1024) (V5 (c * 1024))).toArray) := ((Kp.of (S := []) hb).drew.row _ _ (.inr (Nat.le_refl _))).bel
      have DONE : Hid (∃ m' : Nat, ∃ cur3 : Array Value, 1 ≤ m' ∧ m' ≤ n ∧ Value.int .i64 ((m : Int) + (c : Int)) = .int .i64 (m' : Int) ∧ (wr.drew.setRow w.heap.size (put cur2.toList (m * 1024) (V5 (c * 1024))).toArray).heap[w.heap.size]? = some (.cells cur3 92 (0, 0)) ∧ cur3.size = n * 1024 ∧ cur3.toList.take (m' * 1024) = V5 (m' * 1024) ∧ Below w.heap.size w (wr.drew.setRow w.heap.size (put cur2.toList (m * 1024) (V5 (c * 1024))).toArray)) := ⟨m + c, _, by omega, by omega, by rw [Int.natCast_add], hc3, hp1, hp0, hb2⟩
      clear hc3 hp0 hp1 hb2 hs ht hc
      go_wp2_with fail
      refine wp_region_held_drew (S := fun _ => True) (by kernel_rfl) (trivial) (fun hHeld => ?_)
      refine wpAnyH_take (i := 0) (v := (.int .i64 (m : Int))) rfl (by kernel_rfl) (by kernel_rfl) (by kernel_rfl) (fun _ _ _ h => h) (Or.inl ⟨by rfl, ?_⟩) (by assumption) ?_
      · intro w9 hSw
        try dsimp only at hSw
        go_simp
        all_goals try decide
        all_goals try assumption
      try simp only [Act.put, List.getElem_toArray, List.getElem_cons_succ, List.getElem_cons_zero, List.setIfInBounds_toArray, List.set_cons_zero, List.set_cons_succ]
      refine wpAnyH_take (i := 1) (v := (.slice (some ⟨w.heap.size, 0, none⟩) n n)) rfl (by kernel_rfl) (by kernel_rfl) (by kernel_rfl) (fun _ _ _ h => h) (Or.inl ⟨by rfl, ?_⟩) (by assumption) ?_
      · intro w9 hSw
        try dsimp only at hSw
        go_simp
        all_goals try decide
        all_goals try assumption
      try simp only [Act.put, List.getElem_toArray, List.getElem_cons_succ, List.getElem_cons_zero, List.setIfInBounds_toArray, List.set_cons_zero, List.set_cons_succ]
      refine wpAnyH_take (i := 2) (v := (.int .i64 (m : Int))) rfl (by kernel_rfl) (by kernel_rfl) (by kernel_rfl) (fun _ _ _ h => h) (Or.inl ⟨by rfl, ?_⟩) (by assumption) ?_
      · intro w9 hSw
        try dsimp only at hSw
        go_simp
        all_goals try decide
        all_goals try assumption
      try simp only [Act.put, List.getElem_toArray, List.getElem_cons_succ, List.getElem_cons_zero, List.setIfInBounds_toArray, List.set_cons_zero, List.set_cons_succ]
      refine wpAnyH_take (i := 3) (v := (.slice (some ⟨w.heap.size, m * 1024, none⟩) (n - m) (n - m))) rfl (by kernel_rfl) (by kernel_rfl) (by kernel_rfl) (fun _ _ _ h => h) (Or.inl ⟨by rfl, ?_⟩) (by assumption) ?_
      · intro w9 hSw
        try dsimp only at hSw
        go_simp
        all_goals try decide
        all_goals try assumption
      try simp only [Act.put, List.getElem_toArray, List.getElem_cons_succ, List.getElem_cons_zero, List.setIfInBounds_toArray, List.set_cons_zero, List.set_cons_succ]
      refine wpAnyH_take (i := 4) (v := (.slice (some ⟨w.heap.size, 0, none⟩) n n)) rfl (by kernel_rfl) (by kernel_rfl) (by kernel_rfl) (fun _ _ _ h => h) (Or.inl ⟨by rfl, ?_⟩) (by assumption) ?_
      · intro w9 hSw
        try dsimp only at hSw
        go_simp
        all_goals try decide
        all_goals try assumption
      try simp only [Act.put, List.getElem_toArray, List.getElem_cons_succ, List.getElem_cons_zero, List.setIfInBounds_toArray, List.set_cons_zero, List.set_cons_succ]
      refine wpAnyH_take (i := 5) (v := (.int .i64 (m : Int))) rfl (by kernel_rfl) (by kernel_rfl) (by kernel_rfl) (fun _ _ _ h => h) (Or.inl ⟨by rfl, ?_⟩) (by assumption) ?_
      · intro w9 hSw
        try dsimp only at hSw
        go_simp
        all_goals try decide
        all_goals try assumption
      try simp only [Act.put, List.getElem_toArray, List.getElem_cons_succ, List.getElem_cons_zero, List.setIfInBounds_toArray, List.set_cons_zero, List.set_cons_succ]
      refine wpAnyH_take (i := 6) (v := (.slice (some ⟨w.heap.size, 0, none⟩) m n)) rfl (by kernel_rfl) (by kernel_rfl) (by kernel_rfl) (fun _ _ _ h => h) (Or.inl ⟨by rfl, ?_⟩) (by assumption) ?_
      · intro w9 hSw
        try dsimp only at hSw
        go_simp
        all_goals try decide
        all_goals try assumption
      try simp only [Act.put, List.getElem_toArray, List.getElem_cons_succ, List.getElem_cons_zero, List.setIfInBounds_toArray, List.set_cons_zero, List.set_cons_succ]
      refine wpAnyH_ready (rs := [7]) (by kernel_rfl) (by simp) ?_
      refine AllReadyH.cons rfl (fun K' hK => ?_) AllReadyH.nil
      rw [if_pos (by rfl)]
      simp only [List.getElem_toArray, List.getElem_cons_succ, List.getElem_cons_zero]
      refine wp_copy_by (.tmp 41) (.tmp 44) rfl _ _ _ rfl rfl HC ?_
      refine hK.out _ _ trivial (fun hHeld => ?_)
      clear hK K'
      try simp only [Act.put, List.getElem_toArray, List.getElem_cons_succ, List.getElem_cons_zero, List.setIfInBounds_toArray, List.set_cons_zero, List.set_cons_succ]
      refine wpAnyH_take (i := 8) (v := (.int .i64 ((m : Int) + (c : Int)))) rfl (by kernel_rfl) (by kernel_rfl) (by kernel_rfl) (fun _ _ _ h => h) (Or.inl ⟨by rfl, ?_⟩) (by assumption) ?_
      · intro w9 hSw
        try dsimp only at hSw
        go_simp
        all_goals try decide
        all_goals try assumption
      try simp only [Act.put, List.getElem_toArray, List.getElem_cons_succ, List.getElem_cons_zero, List.setIfInBounds_toArray, List.set_cons_zero, List.set_cons_succ]
      refine wpAnyH_take (i := 9) (v := (.int .i64 ((m : Int) + (c : Int)))) rfl (by kernel_rfl) (by kernel_rfl) (by kernel_rfl) (fun _ _ _ h => h) (Or.inl ⟨by rfl, ?_⟩) (by assumption) ?_
      · intro w9 hSw
        try dsimp only at hSw
        go_simp
        all_goals try decide
        all_goals try assumption
      try simp only [Act.put, List.getElem_toArray, List.getElem_cons_succ, List.getElem_cons_zero, List.setIfInBounds_toArray, List.set_cons_zero, List.set_cons_succ]
      refine wpAnyH_done (by kernel_rfl) ?_ _
      go_wp2_with fail
      exact ⟨DONE.out, by simp [intOf]; omega⟩
    · obtain rfl : m = n := by omega
      have e : cur2 = (V5 (m * 1024)).toArray := by
        apply Array.ext'
        rw [← ht, List.take_of_length_le (by simp [hs])]
      subst e
      have HH : Hid _ := hc
      clear hc hs ht
      go_wp2_with fail
      go_ret
      exact ⟨rfl, HH.out, hb⟩
#print axioms repeat_any

theorem fold_set (off : Nat) (ho : off = 0) : ∀ (vs : List Value) (k : Nat) (arr : Array Value), k + vs.length ≤ arr.size → ((vs.zipIdx k).foldl (fun (cs : Array Value) ((c, j) : Value × Nat) => cs.setIfInBounds (off + j) c) arr).toList = arr.toList.take k ++ vs ++ arr.toList.drop (k + vs.length)
  | [], k, arr, _ => by simp
  | v :: r, k, arr, h => by
    rw [List.zipIdx_cons, List.foldl_cons, fold_set off ho r (k + 1) _ (by simp at h ⊢; omega), ho]
    dsimp only
    rw [Nat.zero_add, Array.toList_setIfInBounds]
    exact list_seg_step arr.toList k v r (by simp at h ⊢; omega)
theorem fill_one (arr C : Array Value) (ha : arr.size = 1024) (hC : C.size = 1024) : Instr.fill (fun i => some (i * 1024, 1024)) arr [(0, .agg C)] = some C := by
  have hc : (Value.agg C).cells = C := rfl
  unfold Instr.fill
  rw [hc]
  dsimp only
  rw [if_neg (by simp [hC, ha])]
  unfold Instr.fill
  congr 1
  apply Array.ext'
  rw [← Array.foldl_toList, Array.toList_zipIdx]
  have := fold_set (0 * 1024) (Nat.zero_mul _) C.toList 0 arr (by simp [ha, hC])
  rw [this, List.take_zero, List.nil_append, List.drop_of_length_le (by simp [ha, hC]), List.append_nil]
theorem built57 (C : Array Value) (hC : C.size = 1024) (z : World) : (Instr.buildSlice 87 1 #[(0, .agg C)]).run Try.prog z = .ok (.slice (some ⟨z.heap.size, 0, none⟩) 1 1) (z.alloc (.cells C 92)) := by
  obtain ⟨i, hi, hz0, hz1, hz2⟩ := info_parts info57
  generalize Value.agg (Array.replicate 1024 (Value.int .u8 0)) = Z at hz0
  have hf := fun arr ha => fill_one arr C ha hC
  simp [Instr.buildSlice, run_underlying Try.underlying87, sizeOf, typeInfo, zeroValue, hi, hz0, hz1, hf, newRow]
theorem wpList_bs_by {ops : Array Oper} {rest : List Oper} {o : Oper} {a : Act} {w : World} {Q : Exit → Act → World → Prop} (hgd : o.guard = none) (x : Operand)
    (ho : o.op = .buildSlice 87 1 #[(0, x)]) (C : Array Value) (hC : C.size = 1024) (hx : a.eval x = .agg C)
    (h : wpList Try.prog ops Q rest (a.put o.dst (.slice (some ⟨w.heap.size, 0, none⟩) 1 1)) (w.alloc (.cells C 92))) : wpList Try.prog ops Q (o :: rest) a w := by
  refine wpList_plain hgd fun K hK => ?_
  have hb := built57 C hC w
  unfold Oper.wp
  simp [execOp, ho, hx, hb, Result.andThen]
  exact hK _ _ h

/-- A new flash. -/
def newS (n : Nat) : FS := ⟨List.replicate (1024 * n) 255, 0, false, 0, false⟩

set_option linter.unusedSimpArgs false in
set_option maxHeartbeats 4000000 in
set_option maxRecDepth 100000 in
theorem new_bad (z : Int) (w : World) (h : z < 1 ∨ 64 < z) :
    Calls Try.prog 26 #[.int .i64 z] w fun e w' => e = .returned (.tuple #[.pointer none, .int .i64 2]) ∧ w' = w := by
  by_cases a : z < 1
  · go_enter Try.func26, Try.ntmps26
    go_wp2_with fail
    go_ret2
    exact ⟨rfl, rfl⟩
  · have b : 64 < z := by omega
    go_enter Try.func26, Try.ntmps26
    go_wp2_with fail
    go_ret2
    exact ⟨rfl, rfl⟩

set_option linter.unusedSimpArgs false in
set_option maxHeartbeats 4000000 in
set_option maxRecDepth 100000 in
theorem new_ok (n : Nat) (hn1 : 1 ≤ n) (hn : n ≤ 64) (w : World) :
    Calls Try.prog 26 #[.int .i64 (n : Int)] w fun e w' => (∃ p B, e = .returned (.tuple #[.pointer (some ⟨p, 0, none⟩), .int .i64 0]) ∧ w.heap.size ≤ p ∧ w.heap.size ≤ B ∧ IsS w' p B n n (newS n)) ∧ Below w.heap.size w w' := by
  have g1 : ¬ (n : Int) < 1 := by omega
  have g2 : ¬ (64 : Int) < (n : Int) := by omega
  have RP := fun g w tg hg => repeat_any n g hn1 hn w tg hg
  have EA := fun w => erased_any w
  rw [ff_V5] at EA
  have NS : (newS n).cs.map (Value.int .u8) = V5 (n * 1024) := by unfold newS V5; rw [List.map_replicate, Nat.mul_comm]
  have NS : Hid _ := NS
  generalize hVV : V5 1024 = VV at *
  have HV : Hid (VV = V5 1024) := hVV.symm
  clear hVV
  go_enter Try.func26, Try.ntmps26
  go_wp2_with fail
  refine (EA _).mono ?_
  rintro e z ⟨rfl, hz⟩
  clear EA
  have SV : Hid (VV.toArray.size = 1024) := by show _ = _; rw [HV.out, List.size_toArray, V5_len]
  go_wp2_with (refine wpList_bs_by rfl (.tmp 10) rfl VV.toArray SV.out rfl ?_)
  refine (RP z.heap.size _ _ (heap_alloc_last z _)).mono ?_
  rintro e z2 ⟨rfl, hh, hz2⟩
  clear RP SV
  have sz : (z.alloc (.cells VV.toArray 92)).heap.size = z.heap.size + 1 := by simp
  have s2 := hz2.size
  have s1 := hz.size
  rw [sz] at s2
  have hb : Below w.heap.size w z2 := Below.andThen (Below.al hz _) hz2
  have HH : Hid (z2.heap[z.heap.size + 1]? = some (.cells (V5 (n * 1024)).toArray 92 (0, 0))) := by rw [sz] at hh; exact hh
  have hBl := lt_of_heap HH.out
  clear hh hz hz2
  go_wp2_with fail
  go_ret2
  refine ⟨⟨z2.heap.size, z.heap.size + 1, rfl, by omega, by omega, ⟨by omega, hn1, hn, by simp [newS], fun x hx => by rw [newS, List.mem_replicate] at hx; omega, heap_alloc_last z2 _, 92, [], ?_⟩⟩, Below.al hb _⟩
  rw [List.append_nil, NS.out, Below.heap_alloc _ _ _ (by omega)]
  exact HH.out
#print axioms new_ok
end Go.Proofs.Ytgpbmccjcjoijaa
