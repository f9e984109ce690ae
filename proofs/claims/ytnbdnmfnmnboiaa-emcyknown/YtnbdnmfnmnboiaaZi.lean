/-
  The walks of slices.Delete of the first that waits, and of the program's Tick, Forget, Reset.
-/
import Derived.Test.YtnbdnmfnmnboiaaZh
import Derived.Test.YtnbdnmfnmnboiaaTk9
namespace Go.Proofs.Ytnbdnmfnmnboiaa
open Go.RowKit

/-- Something is put behind where there is room. -/
theorem OwnAt.append_in {w : World} {t ty e : TypeId} {i : TypeInfo} {size : Nat} (ht : Try.prog.underlying t = some (.slice e)) (hi : Try.prog.info? e = some i) (hsize : i.size = size)
    {g o n cap : Nat} {xs : List Value} (h : OwnAt w e size g o n cap xs) (a : Addr) (m c : Nat) (news : List Value) (hl : news.length = m * size) (hnews : ∀ j u, news[j]? = some u → w.cell? (a.add j) = some u) (h1 : ∀ u ∈ news, u.oneCell' = true) (hroom : n + m ≤ cap) :
    ∃ w', (Builtin.append_ #[t, t] ty #[.slice (some ⟨g, o, none⟩) n cap, .slice (some a) m c]).run Try.prog w = .ok (.slice (some ⟨g, o, none⟩) (n + m) cap) w' ∧ OwnAt w' e size g o (n + m) cap (xs ++ news) ∧ Kp [g] w w' := by
  subst hsize
  obtain ⟨cur, c1, c2, c3⟩ := h.cur
  have hc0 : n * i.size + m * i.size ≤ cap * i.size := by rw [← Nat.add_mul]; exact Nat.mul_le_mul_right _ hroom
  have hf := run_firstCells_some (P := Try.prog) w i.size m a m c news hl hnews
  have hst := run_storeCells_at Try.prog g (o + n * i.size) e news 0 cur w c1 (by rw [hl]; omega) h1
  simp only [Nat.add_zero] at hst
  have hr : (Builtin.append_ #[t, t] ty #[.slice (some ⟨g, o, none⟩) n cap, .slice (some a) m c]).run Try.prog w = .ok (.slice (some ⟨g, o, none⟩) (n + m) cap) (w.setRow g (cur.toList.take (o + n * i.size) ++ news ++ cur.toList.drop (o + n * i.size + news.length)).toArray) := by
    simp [Builtin.append_, run_underlying ht, sizeOf, typeInfo, hi, Builtin.lenOf, hroom, hf, add_at, hst]
  refine ⟨_, hr, ⟨?_, ⟨_, setRow_heap w g cur _ e _ c1, ?_, ?_⟩, hroom, h.cm⟩, (Kp.refl _ _).row _ _ (.inl (by simp))⟩
  · rw [List.length_append, h.len, hl, Nat.add_mul]
  · simp only [List.size_toArray, List.length_append, List.length_take, List.length_drop, Array.length_toList, hl]
    omega
  · have l1 : (cur.toList.take (o + n * i.size)).length = o + n * i.size := by rw [List.length_take, Array.length_toList]; omega
    rw [List.toList_toArray, List.append_assoc, List.drop_append_of_le_length (by rw [l1]; omega), List.drop_take, show o + n * i.size - o = n * i.size from by omega, c3, ← List.append_assoc]
    exact take_app _ _ _ _ (by rw [List.length_append, h.len, hl, Nat.add_mul])
/-- Fewer of them. -/
theorem OwnAt.few {w : World} {e : TypeId} {k g o n cap : Nat} {xs : List Value} (h : OwnAt w e k g o n cap xs) (j : Nat) (hj : j ≤ n) : OwnAt w e k g o j cap (xs.take (j * k)) := by
  obtain ⟨cur, c1, c2, c3⟩ := h.cur
  have hm : j * k ≤ n * k := Nat.mul_le_mul_right _ hj
  exact ⟨by rw [List.length_take, h.len]; omega, ⟨cur, c1, c2, by rw [← c3, List.take_take, Nat.min_eq_left hm]⟩, Nat.le_trans hj h.nc, h.cm⟩
theorem zero_one11 (n : Nat) : ∀ v ∈ (Builtin.zeroCells (frC 0 0 0 0 0 0 0 0 0 0 false) n).toList, v.oneCell' = true := fun v hv => by
  have h2z : ∀ r, r < 11 → ((frC 0 0 0 0 0 0 0 0 0 0 false : Array Value)[r]!).oneCell' = true := by decide
  simp only [Builtin.zeroCells, Array.toList_map, List.mem_map] at hv
  obtain ⟨k, _, rfl⟩ := hv
  exact h2z _ (Nat.mod_lt _ (by decide))
/-- One behind them is made empty. -/
theorem OwnAt.clear1 {w : World} {g o n cap : Nat} {xs : List Value} (h : OwnAt w 40 11 g o n cap xs) (hn : n < cap) (ty : TypeId) (c : Nat) :
    ∃ w', (Builtin.clear_ #[64] ty #[.slice (some ⟨g, o + n * 11, none⟩) 1 c]).run Try.prog w = .ok (.tuple #[]) w' ∧ OwnAt w' 40 11 g o n cap xs ∧ Kp [g] w w' := by
  obtain ⟨cur, c1, c2, c3⟩ := h.cur
  obtain ⟨ie, hi0, hz0, hz1, hz2⟩ := info_parts infoFr
  have hv : ∀ w, (zeroValue 40).run Try.prog w = .ok (frV 0 0 0 0 0 0 0 0 0 0 false) w := fun w => by simp [zeroValue, typeInfo, hi0, hz0]
  obtain ⟨zs, hzs⟩ : ∃ zs, zs = (Builtin.zeroCells (frC 0 0 0 0 0 0 0 0 0 0 false) 1).toList := ⟨_, rfl⟩
  have hzl : zs.length = 11 := by rw [hzs, Array.length_toList, size_zeroCells]; rfl
  have h1 : ∀ u ∈ zs, u.oneCell' = true := by rw [hzs]; exact zero_one11 _
  have hc : (n + 1) * 11 ≤ cap * 11 := Nat.mul_le_mul_right _ (by omega)
  have hst := run_storeCells_at Try.prog g (o + n * 11) 40 zs 0 cur w c1 (by rw [hzl]; omega) h1
  rw [Nat.add_zero] at hst
  refine ⟨w.setRow g (cur.toList.take (o + n * 11) ++ zs ++ cur.toList.drop (o + n * 11 + zs.length)).toArray, ?_, ⟨h.len, ⟨_, setRow_heap w g cur _ _ _ c1, ?_, ?_⟩, h.nc, h.cm⟩, (Kp.refl _ _).row g _ (.inl (by simp))⟩
  · simp [Builtin.clear_, run_underlying Try.underlying64, hv, Value.cells, ← hzs, hst]
  · simp only [List.size_toArray, List.length_append, List.length_take, List.length_drop, Array.length_toList, hzl]
    omega
  · have l1 : (cur.toList.take (o + n * 11)).length = o + n * 11 := by rw [List.length_take, Array.length_toList]; omega
    rw [List.toList_toArray, List.append_assoc, List.drop_append_of_le_length (by rw [l1]; omega), List.drop_take, show o + n * 11 - o = n * 11 from by omega, c3, ← h.len]
    exact List.take_left
theorem wp_clr_by {w w' : World} {o : Oper} {a : Act} {K : Act → World → Prop} {Q : Exit → Act → World → Prop} (s : Operand) (t : TypeId)
    (ho : o.op = .call { callee := .builtin .clear, args := #[s], argTypes := #[t] }) (vs : Value) (hs : a.eval s = vs)
    (v' : Value) (hr : (Builtin.clear_ #[t] o.type #[vs]).run Try.prog w = .ok v' w') (h : K (a.put o.dst v') w') : o.wp Try.prog a w K Q := by
  unfold Oper.wp execOp
  simp only [ho, resolve, invoke, builtin, Sem.run_bind, Sem.run_pure, Result.andThen_ok, List.map_toArray, List.map_cons, List.map_nil, hs, hr]
  exact h
theorem wpList_clr_by {w w' : World} {ops : Array Oper} {rest : List Oper} {o : Oper} {a : Act} {Q : Exit → Act → World → Prop} (hgd : o.guard = none) (s : Operand) (t : TypeId)
    (ho : o.op = .call { callee := .builtin .clear, args := #[s], argTypes := #[t] }) (vs : Value) (hs : a.eval s = vs)
    (v' : Value) (hr : (Builtin.clear_ #[t] o.type #[vs]).run Try.prog w = .ok v' w') (h : wpList Try.prog ops Q rest (a.put o.dst v') w') : wpList Try.prog ops Q (o :: rest) a w :=
  wpList_plain hgd fun _ hK => wp_clr_by s t ho vs hs v' hr (hK _ _ h)
theorem elemSF : Try.prog.underlying 64 = some (.slice (Try.prog.elem 64)) := by kernel_rfl
theorem elemSF' : Try.prog.elem 64 = 40 := by kernel_rfl
theorem sizeTF (w : World) : (sizeOf 40).run Try.prog w = .ok 11 w := by kernel_rfl
/-- What Delete leaves. -/
def DlPost (w w' : World) (g o m cap : Nat) (xs : List Value) (e : Ending) : Prop := e = .returned (.slice (some ⟨g, o, none⟩) m cap) ∧ OwnAt w' 40 11 g o m cap xs ∧ Kp [g] w w'

set_option linter.unusedSimpArgs false in
set_option maxHeartbeats 4000000 in
set_option maxRecDepth 100000 in
theorem delete_any {w : World} {g o N cap : Nat} {xs : List Value} (h : OwnAt w 40 11 g o N cap xs) (h0 : 0 < N) (h1 : ∀ u ∈ xs, u.oneCell' = true) :
    Calls Try.prog 38 #[.slice (some ⟨g, o, none⟩) N cap, .int .i64 0, .int .i64 1] w fun e w' => DlPost w w' g o (N - 1) cap (xs.drop 11) e := by
  obtain ⟨m, hm⟩ : ∃ m, Hid (m = N - 1) := ⟨_, rfl⟩
  rw [← hm.out]
  obtain ⟨ie, hi0, hz0, hz1, hz2⟩ := info_parts infoFr
  have hnc := h.nc
  have hcm := h.cm
  obtain ⟨o', TL, hT, hTo⟩ := h.tail elemSF elemSF' hi0 hz1 h0
  rw [← hm.out] at TL hT
  have F0 := h.few 0 (Nat.zero_le _)
  rw [Nat.zero_mul, List.take_zero] at F0
  have hmN : m + 1 = N := by have := hm.out; omega
  obtain ⟨w2, AP, hA, hk2⟩ := (F0.same (w' := w.drew) rfl).append_in (ty := 64) Try.underlying64 hi0 hz1 ⟨g, o', none⟩ m (cap - 1) (xs.drop 11) hT.len (hT.same (w' := w.drew) rfl).cellA (fun u hu => h1 u (List.mem_of_mem_drop hu)) (by omega)
  rw [Nat.zero_add] at AP hA
  rw [List.nil_append] at hA
  obtain ⟨w3, CL, hC, hk3⟩ := hA.clear1 (by omega) 0 (cap - m)
  have SL0 : ∀ W, (Instr.sliceAt 64 (.slice (some ⟨g, o, none⟩) N cap) none (some (.int .i64 0)) none).run Try.prog W = .ok (.slice (some ⟨g, o, none⟩) 0 cap) W := fun W => by rw [run_sliceAt_slice W _ _ _ _ _ elemSF, run_slice_h W _ _ _ _ elemSF .i64 0 (by decide) (by omega), elemSF', sizeTF]; simp [Result.andThen, sliced, add_at]
  have SL1 : ∀ W, (Instr.sliceAt 64 (.slice (some ⟨g, o, none⟩) N cap) (some (.int .i64 1)) none none).run Try.prog W = .ok (.slice (some ⟨g, o', none⟩) m (cap - 1)) W := TL
  have SL2 : ∀ W, (Instr.sliceAt 64 (.slice (some ⟨g, o, none⟩) m cap) (some (.int .i64 (m : Int))) (some (.int .i64 (N : Int))) none).run Try.prog W = .ok (.slice (some ⟨g, o + m * 11, none⟩) 1 (cap - m)) W := fun W => by
    rw [run_sliceAt_slice W _ _ _ _ _ elemSF, run_slice_lh W _ _ _ _ elemSF .i64 .i64 (m : Int) (N : Int) (by omega) (by omega) (by omega), elemSF', sizeTF]
    have : ¬ cap = m := by omega
    simp [Result.andThen, sliced, add_at, this]; omega
  have HC : Hid (OwnAt w3 40 11 g o m cap (xs.drop 11) ∧ Kp [g] w w3) := ⟨hC, (Kp.drew (Kp.refl _ _)).trans (hk2.trans hk3)⟩
  have HA : Hid (Kp [g] w w2) := (Kp.drew (Kp.refl _ _)).trans hk2
  have hn1 : (1 : Int) ≤ (N : Int) := by omega
  have hn2 : (N : Int) ≤ (cap : Int) := by omega
  have HM : Hid (m + 1 = N) := hmN
  clear hi0 hz0 hz1 hz2 hT hTo F0 hA hC hk2 hk3 hm hmN h h0 h1 hcm TL
  go_enter Try.func38, Try.ntmps38
  go_wp2_with fail
  refine wp_region_held_drew (S := fun x1 => Kp [g] w x1) (by kernel_rfl) (Kp.drew (Kp.refl _ _)) (fun hHeld => ?_)
  refine tk 0 (.slice (some ⟨g, o, none⟩) N cap) rfl (.inl ⟨by rfl, ?_⟩) ?_
  · intro w9 hSw
    try dsimp only at hSw
    go_simp
    all_goals try decide
    all_goals try assumption
    all_goals try omega
  try simp only [Act.put, gA, gS, gZ, sA, sZ, sS]
  refine tk 1 (.int .i64 0) rfl (.inl ⟨by rfl, ?_⟩) ?_
  · intro w9 hSw
    try dsimp only at hSw
    go_simp
    all_goals try decide
    all_goals try assumption
    all_goals try omega
  try simp only [Act.put, gA, gS, gZ, sA, sZ, sS]
  refine tk 2 (.slice (some ⟨g, o, none⟩) 0 cap) rfl (.inl ⟨by rfl, ?_⟩) ?_
  · intro w9 hSw
    try dsimp only at hSw
    go_simp
    all_goals try decide
    all_goals try assumption
    all_goals try omega
  try simp only [Act.put, gA, gS, gZ, sA, sZ, sS]
  refine tk 3 (.slice (some ⟨g, o, none⟩) N cap) rfl (.inl ⟨by rfl, ?_⟩) ?_
  · intro w9 hSw
    try dsimp only at hSw
    go_simp
    all_goals try decide
    all_goals try assumption
    all_goals try omega
  try simp only [Act.put, gA, gS, gZ, sA, sZ, sS]
  refine tk 4 (.int .i64 1) rfl (.inl ⟨by rfl, ?_⟩) ?_
  · intro w9 hSw
    try dsimp only at hSw
    go_simp
    all_goals try decide
    all_goals try assumption
    all_goals try omega
  try simp only [Act.put, gA, gS, gZ, sA, sZ, sS]
  refine tk 5 (.slice (some ⟨g, o', none⟩) m (cap - 1)) rfl (.inl ⟨by rfl, ?_⟩) ?_
  · intro w9 hSw
    try dsimp only at hSw
    go_simp
    all_goals try decide
    all_goals try assumption
    all_goals try omega
  try simp only [Act.put, gA, gS, gZ, sA, sZ, sS]
  refine wpAnyH_ready (rs := [6]) (by kernel_rfl) (by simp) ?_
  refine AllReadyH.cons rfl (fun K' hK => ?_) AllReadyH.nil
  rw [if_pos (by rfl)]
  simp only [gA, gS, gZ]
  refine wp_app_by _ _ _ rfl _ _ rfl rfl _ AP ?_
  refine hK.out _ _ (HA.out) (fun hHeld => ?_)
  clear hK K'
  try simp only [Act.put, gA, gS, gZ, sA, sZ, sS]
  refine tk 7 (.slice (some ⟨g, o, none⟩) m cap) rfl (.inl ⟨by rfl, ?_⟩) ?_
  · intro w9 hSw
    try dsimp only at hSw
    go_simp
    all_goals try decide
    all_goals try assumption
    all_goals try omega
  try simp only [Act.put, gA, gS, gZ, sA, sZ, sS]
  refine wpAnyH_done (by kernel_rfl) ?_ _
  clear hHeld AP
  go_wp2_with (at_builtin; refine wpList_clr_by rfl _ _ rfl _ rfl _ CL ?_)
  go_ret
  exact ⟨rfl, HC.out.1, HC.out.2⟩

#print axioms OwnAt.clear1
end Go.Proofs.Ytnbdnmfnmnboiaa
