/-
  A transfer begins.
-/
import Derived.Test.YtenfbebdfodmdaaUd
import Derived.Test.YtenfbebdfodmdaaSe
import Derived.Test.YtenfbebdfodmdaaTk9
namespace Go.Proofs.Ytenfbebdfodmdaa
open Go.RowKit

theorem Row.kp {w w' : World} {p : Nat} {a : Option Addr} {len : Nat} {zs : List Int} (h : Row w a len zs) (k : Kp [p] w w') (hne : ∀ b off, a = some ⟨b, off, none⟩ → b ≠ p) : Row w' a len zs where
  size := h.size
  oct := h.oct
  at_ := fun hl => by
    obtain ⟨b, off, e, hc⟩ := h.at_ hl
    refine ⟨b, off, e, fun i hi => ?_⟩
    have hb := h.old hl b off e
    have := k.block b hb (by simpa using hne b off e)
    rw [← hc i hi]
    simp only [World.cell?, this]
theorem ex_load11 {o : Oper} {a : Act} {w : World} (ty : TypeId) (x : Operand) (ho : o.op = .load ty x) (ad : Addr) (v : Value) (hx : a.eval x = .pointer (some ad)) (hr : (loadVar ty ad).run Try.prog w = .ok v w) : (execOp a.eval o).run Try.prog w = .ok (.value v) w := by
  unfold execOp
  simp only [ho, hx, Instr.loadAt, Instr.sureAddr, Sem.run_bind, Sem.run_pure, Result.andThen_ok, hr]
theorem Told.keep11 {w W w1 w2 : World} {a : Option Addr} {len cap : Nat} {zs : List Int} (h : Told W w1 a len cap zs) (hs : w.heap.size ≤ W.heap.size) (hk : ∀ g, W.heap.size ≤ g → g < w1.heap.size → w2.heap[g]? = w1.heap[g]?) : Told w w2 a len cap zs := by
  refine ⟨⟨h.row.size, h.row.oct, fun hp => ?_⟩, h.le, h.max, fun hp => ?_⟩
  · obtain ⟨g, rfl, hg, _⟩ := h.own hp
    obtain ⟨b, off, e, hc⟩ := h.row.at_ hp
    cases e
    exact ⟨_, 0, rfl, fun i hi => (World.cell?_of_block (w := w1) (a := ⟨g, 0 + i, none⟩) (hk g hg (block_lt_of_cell (hc 0 hp)))).trans (hc i hi)⟩
  · obtain ⟨g, e, hg, hz⟩ := h.own hp
    obtain ⟨b, off, e', hc⟩ := h.row.at_ hp
    rw [e] at e'
    cases e'
    exact ⟨g, e, Nat.le_trans hs hg, fun i hi => (World.frozen?_of_block (w := w1) (a := ⟨g, i, none⟩) (hk g hg (block_lt_of_cell (hc 0 hp)))).trans (hz i hi)⟩
theorem store_ptr (t : TypeId) (ht : (Try.prog.info? t).map (·.size) = some 1) (w : World) (B j : Nat) (x : Option Addr) (C : Array Value) (T : TypeId) (h : w.heap[B]? = some (.cells C T (0, 0))) (hj : j < C.size) : (storeVar t ⟨B, j, none⟩ (.pointer x)).run Try.prog w = .ok () (w.setRow B (C.setIfInBounds j (.pointer x))) := by
  cases hq : Try.prog.info? t with
  | none => simp [hq] at ht
  | some i =>
    have hi : i.size = 1 := by simpa [hq] using ht
    have e1 : (C.toList.take j ++ [Value.pointer x] ++ C.toList.drop (j + 1)).toArray = C.setIfInBounds j (.pointer x) := by
      apply Array.toList_inj.1
      simp [List.set_eq_take_append_cons_drop, hj]
    rw [← e1]
    have := run_storeCells_at Try.prog B j T [.pointer x] 0 C w h (by simp; omega) (by simp [Value.oneCell'])
    simpa [storeVar, Value.cells, sizeOf, typeInfo, hq, hi, Result.andThen] using this
theorem sizePT : (Try.prog.info? 57).map (·.size) = some 1 := by kernel_rfl
/-- A transfer was begun. -/
def BegPost (w : World) (p : Nat) (A wt i s : Int) (wr q : Bool) (now k : Int) (zs : List Int) (len : Nat) (FC : Array Value) (e : Ending) (w' : World) : Prop :=
  ∃ T g a' cap', e = .returned (.slice (some ⟨g, 0, none⟩) 1 1) ∧ Kp [p] w w' ∧ w'.heap[p]? = some (.cells (clC A wt (some ⟨T, 0, none⟩) none) 60 (0, 0)) ∧ w.heap.size ≤ T ∧ w.heap.size ≤ g ∧ T ≠ g ∧
    w'.heap[T]? = some (.cells (trC i s wr q (tmN now) k false false a' len cap' false 0 0 0 0) 65 (0, 0)) ∧ w'.heap[g]? = some (.cells FC 25 (0, 0)) ∧ Told w w' a' len cap' zs ∧ (0 < len → ∀ b off, a' = some ⟨b, off, none⟩ → b ≠ T)

set_option linter.unusedSimpArgs false in
set_option maxHeartbeats 4000000 in
set_option maxRecDepth 100000 in
theorem begin_1 (p : Nat) (A wt : Int) (tp rp : Option Addr) (i s : Int) (z : Bool) (n : Int) (q : Bool) (a2 : Option Addr) (len2 cap2 : Nat) (t l c : Bool) (b e u m o : Int) (a : Option Addr) (len cap : Nat) (zs : List Int) (now : Int) (FC : Array Value) (w : World) (hp : w.heap[p]? = some (.cells (clC A wt tp rp) 60 (0, 0))) (hr : Row w a len zs) (hl : len ≤ 4096) (hne : ∀ b off, a = some ⟨b, off, none⟩ → b ≠ p)
    (HA : Hid (∀ W T, Kp [p] w W → W.heap[p]? = some (.cells (clC A wt (some ⟨T, 0, none⟩) none) 60 (0, 0)) → Calls Try.prog 27 #[.pointer (some ⟨p, 0, none⟩), cmV 1 i s z n q a2 len2 cap2 t l c b e u m o] W (OnePost W FC))) :
    Calls Try.prog 14 #[.pointer (some ⟨p, 0, none⟩), cmV 1 i s z n q a2 len2 cap2 t l c b e u m o, .slice a len cap, .int .i64 now] w (BegPost w p A wt i s true q now 1 zs len FC) := by
  have HC : Hid (∀ W, Kp [p] w W → Calls Try.prog 26 #[.slice a len cap] W fun e w' => (∃ a' cap', e = .returned (.slice a' len cap') ∧ Told W w' a' len cap' zs) ∧ Below W.heap.size W w') := fun W hk => clone8_any a len cap zs W (hr.kp hk hne) (by omega)
  have HP : Hid (w.heap[p]? = some (.cells (clC A wt tp rp) 60 (0, 0))) := hp
  have lp : p < w.heap.size := lt_of_heap hp
  have c3 : w.cell? ⟨p, 3, none⟩ = some (.pointer rp) := by rw [cell_of_row w _ 3 _ _ _ hp]; rfl
  have z3 : w.frozen? ⟨p, 3, none⟩ = false := froz11 w p 3 _ _ hp
  clear hp hr hl hne
  go_enter Try.func14, Try.ntmps14
  go_wp2_with fail
  clear c3 z3
  obtain ⟨w0, HW0⟩ : ∃ w0, Hid ((w.setCell ⟨p, 3, none⟩ (.pointer none)).alloc (.cells (cmC 1 i s z n q a2 len2 cap2 t l c b e u m o) 54) = w0) := ⟨_, rfl⟩
  have KP0 : Hid (Kp [p] w w0) := by show Kp _ _ _; rw [← HW0.out]; exact Kp.al (Kp.set (Kp.refl _ _) _ _ (.inl (by simp))) _
  have HP0 : Hid (w0.heap[p]? = some (.cells (clC A wt tp none) 60 (0, 0))) := by show _ = _; rw [← HW0.out]; exact ext11 (heap_setCell_same _ _ _ _ _ _ HP.out)
  have HX0 : Hid (w0.heap[w.heap.size]? = some (.cells (cmC 1 i s z n q a2 len2 cap2 t l c b e u m o) 54 (0, 0))) := by show _ = _; rw [← HW0.out]; exact at11 _ _ _ (by simp)
  rw [HW0.out]
  refine wp_region_held_drew (S := fun x => Kp [p] w x ∧ (∃ tq, x.heap[p]? = some (.cells (clC A wt tq none) 60 (0, 0))) ∧ x.heap[w.heap.size]? = some (.cells (cmC 1 i s z n q a2 len2 cap2 t l c b e u m o) 54 (0, 0))) (by kernel_rfl) (⟨Kp.drew KP0.out, ⟨_, HP0.out⟩, HX0.out⟩) (fun hHeld => ?_)
  refine tk 0 (.pointer (some ⟨p, 0, none⟩)) rfl (.inl ⟨by rfl, ?_⟩) ?_
  · intro w9 hSw
    try dsimp only at hSw
    go_simp
    all_goals try decide
    all_goals try assumption
    all_goals try omega
  try simp only [Act.put, gA, gS, gZ, sA, sZ, sS]
  refine tk 1 (.pointer (some ⟨w.heap.size, 1, none⟩)) rfl (.inl ⟨by rfl, ?_⟩) ?_
  · intro w9 hSw
    try dsimp only at hSw
    go_simp
    all_goals try decide
    all_goals try assumption
    all_goals try omega
  try simp only [Act.put, gA, gS, gZ, sA, sZ, sS]
  refine tk 2 (plV i s) rfl (.inl ⟨by rfl, ?_⟩) ?_
  · intro w9 hSw
    try dsimp only at hSw
    exact ex_load11 27 (.tmp 13) rfl _ _ rfl (load_part 27 2 sizeP aggP _ w.heap.size 1 [.int .u8 1, .int .u16 i, .int .u8 s, .bool z, .int .u32 n, .bool q, .slice a2 len2 cap2, .bool t, .bool l, .bool c, .int .i64 b, .int .i64 e, .int .u16 u, .int .i64 m, .int .u32 o] _ hSw.2.2 (by simp))
  try simp only [Act.put, gA, gS, gZ, sA, sZ, sS]
  refine tk 3 (.pointer (some ⟨w.heap.size, 0, none⟩)) rfl (.inl ⟨by rfl, ?_⟩) ?_
  · intro w9 hSw
    try dsimp only at hSw
    go_simp
    all_goals try decide
    all_goals try assumption
    all_goals try omega
  try simp only [Act.put, gA, gS, gZ, sA, sZ, sS]
  refine tk 4 (.int .u8 1) rfl (.inl ⟨by rfl, ?_⟩) ?_
  · intro w9 hSw
    try dsimp only at hSw
    have c0 : w9.cell? ⟨w.heap.size, 0, none⟩ = some (.int .u8 1) := by rw [cell_of_row _ _ 0 _ _ _ hSw.2.2]; rfl
    go_simp
    all_goals try assumption
  try simp only [Act.put, gA, gS, gZ, sA, sZ, sS]
  refine tk 5 (.bool true) rfl (.inl ⟨by rfl, ?_⟩) ?_
  · intro w9 hSw
    try dsimp only at hSw
    go_simp
    all_goals try decide
    all_goals try assumption
    all_goals try omega
  try simp only [Act.put, gA, gS, gZ, sA, sZ, sS]
  refine tk 6 (.bool true) rfl (.inl ⟨by rfl, ?_⟩) ?_
  · intro w9 hSw
    try dsimp only at hSw
    go_simp
    all_goals try decide
    all_goals try assumption
    all_goals try omega
  try simp only [Act.put, gA, gS, gZ, sA, sZ, sS]
  refine tk 7 undef rfl (.inr ⟨by rfl, rfl⟩) ?_
  try simp only [Act.put, gA, gS, gZ, sA, sZ, sS]
  refine tk 8 undef rfl (.inr ⟨by rfl, rfl⟩) ?_
  try simp only [Act.put, gA, gS, gZ, sA, sZ, sS]
  refine tk 9 undef rfl (.inr ⟨by rfl, rfl⟩) ?_
  try simp only [Act.put, gA, gS, gZ, sA, sZ, sS]
  refine tk 10 (.bool true) rfl (.inl ⟨by rfl, ?_⟩) ?_
  · intro w9 hSw
    try dsimp only at hSw
    go_simp
    all_goals try decide
    all_goals try assumption
    all_goals try omega
  try simp only [Act.put, gA, gS, gZ, sA, sZ, sS]
  refine tk 11 (.pointer (some ⟨w.heap.size, 5, none⟩)) rfl (.inl ⟨by rfl, ?_⟩) ?_
  · intro w9 hSw
    try dsimp only at hSw
    go_simp
    all_goals try decide
    all_goals try assumption
    all_goals try omega
  try simp only [Act.put, gA, gS, gZ, sA, sZ, sS]
  refine tk 12 (.bool q) rfl (.inl ⟨by rfl, ?_⟩) ?_
  · intro w9 hSw
    try dsimp only at hSw
    have c0 : w9.cell? ⟨w.heap.size, 5, none⟩ = some (.bool q) := by rw [cell_of_row _ _ 5 _ _ _ hSw.2.2]; rfl
    go_simp
    all_goals try assumption
  try simp only [Act.put, gA, gS, gZ, sA, sZ, sS]
  refine tk 13 (.int .i64 now) rfl (.inl ⟨by rfl, ?_⟩) ?_
  · intro w9 hSw
    try dsimp only at hSw
    go_simp
    all_goals try decide
    all_goals try assumption
    all_goals try omega
  try simp only [Act.put, gA, gS, gZ, sA, sZ, sS]
  refine tk 15 (.pointer (some ⟨w.heap.size, 0, none⟩)) rfl (.inl ⟨by rfl, ?_⟩) ?_
  · intro w9 hSw
    try dsimp only at hSw
    go_simp
    all_goals try decide
    all_goals try assumption
    all_goals try omega
  try simp only [Act.put, gA, gS, gZ, sA, sZ, sS]
  refine tk 16 (.int .u8 1) rfl (.inl ⟨by rfl, ?_⟩) ?_
  · intro w9 hSw
    try dsimp only at hSw
    have c0 : w9.cell? ⟨w.heap.size, 0, none⟩ = some (.int .u8 1) := by rw [cell_of_row _ _ 0 _ _ _ hSw.2.2]; rfl
    go_simp
    all_goals try assumption
  try simp only [Act.put, gA, gS, gZ, sA, sZ, sS]
  refine tk 17 (.slice a len cap) rfl (.inl ⟨by rfl, ?_⟩) ?_
  · intro w9 hSw
    try dsimp only at hSw
    go_simp
    all_goals try decide
    all_goals try assumption
    all_goals try omega
  try simp only [Act.put, gA, gS, gZ, sA, sZ, sS]
  refine wpAnyH_ready (rs := [14]) (by kernel_rfl) (by simp) ?_
  refine AllReadyH.cons rfl (fun K' hK => ?_) AllReadyH.nil
  rw [if_pos (by rfl)]
  simp only [gA, gS, gZ]
  go_wp2_with fail
  refine (timeOf_any now _).mono ?_
  rintro e z ⟨rfl, rfl⟩
  try go_wp2_with fail
  refine hK.out _ _ (hHeld) (fun hHeld => ?_)
  clear hK K'
  try simp only [Act.put, gA, gS, gZ, sA, sZ, sS]
  refine wpAnyH_ready (rs := [18]) (by kernel_rfl) (by simp) ?_
  refine AllReadyH.cons rfl (fun K' hK => ?_) AllReadyH.nil
  rw [if_pos (by rfl)]
  simp only [gA, gS, gZ]
  go_wp2_with fail
  refine (HC.out _ hHeld.1).mono ?_
  rintro e w1 ⟨⟨A9, C9, rfl, htold⟩, hbx⟩
  have HT : Hid (Told _ w1 A9 len C9 zs) := htold
  clear htold
  try go_wp2_with fail
  refine hK.out _ _ (⟨hHeld.1.trans (Kp.of hbx), hHeld.2.1.imp fun _ h => blk11 hbx h, blk11 hbx hHeld.2.2⟩) (fun hHeld => ?_)
  clear hK K'
  try simp only [Act.put, gA, gS, gZ, sA, sZ, sS]
  refine tk 19 (.agg (trC i s true q (tmN now) 1 false false A9 len C9 false 0 0 0 0)) rfl (.inl ⟨by rfl, ?_⟩) ?_
  · intro w9 hSw
    try dsimp only at hSw
    go_simp
    all_goals try decide
    all_goals try assumption
    all_goals try omega
  try simp only [Act.put, gA, gS, gZ, sA, sZ, sS]
  obtain ⟨tq, hq⟩ := hHeld.2.1
  have lp1 : p < w1.heap.size := lt_of_heap hq
  have ls1 : w.heap.size ≤ w1.heap.size := hHeld.1.size
  have lw1 : w.heap.size < w1.heap.size := lt_of_heap hHeld.2.2
  have HQ : Hid _ := hq
  clear hq
  refine wpAnyH_ready (rs := [20]) (by kernel_rfl) (by simp) ?_
  refine AllReadyH.cons rfl (fun K' hK => ?_) AllReadyH.nil
  rw [if_pos (by rfl)]
  simp only [gA, gS, gZ]
  go_wp2_with fail
  refine hK.out _ _ (⟨hHeld.1.al _, ⟨tq, ext11 HQ.out⟩, ext11 hHeld.2.2⟩) (fun hHeld => ?_)
  clear hK K'
  try simp only [Act.put, gA, gS, gZ, sA, sZ, sS]
  refine tk 21 (.pointer (some ⟨p, 0, none⟩)) rfl (.inl ⟨by rfl, ?_⟩) ?_
  · intro w9 hSw
    try dsimp only at hSw
    go_simp
    all_goals try decide
    all_goals try assumption
    all_goals try omega
  try simp only [Act.put, gA, gS, gZ, sA, sZ, sS]
  refine tk 22 (.pointer (some ⟨p, 2, none⟩)) rfl (.inl ⟨by rfl, ?_⟩) ?_
  · intro w9 hSw
    try dsimp only at hSw
    go_simp
    all_goals try decide
    all_goals try assumption
    all_goals try omega
  try simp only [Act.put, gA, gS, gZ, sA, sZ, sS]
  refine wpAnyH_ready (rs := [23]) (by kernel_rfl) (by simp) ?_
  refine AllReadyH.cons rfl (fun K' hK => ?_) AllReadyH.nil
  rw [if_pos (by rfl)]
  simp only [gA, gS, gZ]
  refine wp_store_by 57 _ _ rfl ⟨p, 2, none⟩ _ rfl rfl (store_ptr _ sizePT _ p 2 (some ⟨w1.heap.size, 0, none⟩) _ _ (ext11 HQ.out) (by simp)) ?_
  refine hK.out _ _ (⟨Kp.row hHeld.1 _ _ (.inl (by simp)), ⟨_, setRow_heap _ _ _ _ _ _ (ext11 HQ.out)⟩, (setRow_other _ _ _ _ (by omega)).trans hHeld.2.2⟩) (fun hHeld => ?_)
  clear hK K'
  try simp only [Act.put, gA, gS, gZ, sA, sZ, sS]
  refine wpAnyH_done (by kernel_rfl) ?_ _
  obtain ⟨W, HW⟩ : ∃ W, Hid ((w1.alloc (.cells (trC i s true q (tmN now) 1 false false A9 len C9 false 0 0 0 0) 65)).setRow p (clC A wt (some ⟨w1.heap.size, 0, none⟩) none) = W) := ⟨_, rfl⟩
  have HPW : Hid (W.heap[p]? = some (.cells (clC A wt (some ⟨w1.heap.size, 0, none⟩) none) 60 (0, 0))) := by show _ = _; rw [← HW.out]; exact setRow_heap _ _ _ _ _ _ (ext11 HQ.out)
  have HTW : Hid (W.heap[w1.heap.size]? = some (.cells (trC i s true q (tmN now) 1 false false A9 len C9 false 0 0 0 0) 65)) := by show _ = _; rw [← HW.out]; exact (setRow_other _ _ _ _ (by omega)).trans (at11 _ _ _ rfl)
  have HXW : Hid (W.heap[w.heap.size]? = some (.cells (cmC 1 i s z n q a2 len2 cap2 t l c b e u m o) 54 (0, 0))) := by show _ = _; rw [← HW.out]; exact hHeld.2.2
  have KPW : Hid (Kp [p] w W) := by show Kp _ _ _; rw [← HW.out]; exact hHeld.1
  have HTD : Hid (Told w W A9 len C9 zs) := by
    show Told _ _ _ _ _ _
    rw [← HW.out]
    refine HT.out.keep11 KP0.out.size (fun g h1 h2 => ?_)
    have h3 : w.heap.size ≤ g := Nat.le_trans KP0.out.size h1
    exact (setRow_other _ _ _ _ (by omega)).trans (Below.heap_alloc _ _ _ h2)
  have HNE : Hid (0 < len → ∀ b off, A9 = some ⟨b, off, none⟩ → b ≠ w1.heap.size) := fun h b off e => Nat.ne_of_lt (HT.out.row.old h b off e)
  rw [show (w1.alloc (.cells (trC i s true q (tmN now) 1 false false A9 len C9 false 0 0 0 0) 65)).setRow p _ = W from HW.out]
  clear hHeld HQ HT hbx HW
  go_wp2_with (refine wpList_load_by rfl 54 _ rfl ⟨w.heap.size, 0, none⟩ _ rfl (loadCM _ _ 1 i s z n q a2 len2 cap2 t l c b e u m o _ HXW.out) ?_)
  with_reducible refine (HA.out _ _ KPW.out HPW.out).mono ?_
  rintro r w2 ⟨g, rfl, hg1, hg2, hb⟩
  have HB2 : Hid (Below W.heap.size W w2) := hb
  have HG2 : Hid _ := hg2
  have hlt := lt_of_heap HTW.out
  clear hb hg2
  go_wp2_with fail
  go_ret
  exact ⟨w1.heap.size, g, A9, C9, rfl, KPW.out.trans (Kp.of HB2.out), blk11 HB2.out HPW.out, ls1, Nat.le_trans KPW.out.size hg1, by omega, blk11 HB2.out HTW.out, HG2.out, HTD.out.keep11 (Nat.le_refl _) (fun g' _ h => HB2.out.block g' h), HNE.out⟩

set_option linter.unusedSimpArgs false in
set_option maxHeartbeats 4000000 in
set_option maxRecDepth 100000 in
theorem begin_3 (p : Nat) (A wt : Int) (tp rp : Option Addr) (i s : Int) (z : Bool) (n : Int) (q : Bool) (a2 : Option Addr) (len2 cap2 : Nat) (t l c : Bool) (b e u m o : Int) (a : Option Addr) (len cap : Nat) (zs : List Int) (now : Int) (FC : Array Value) (w : World) (hp : w.heap[p]? = some (.cells (clC A wt tp rp) 60 (0, 0))) (hr : Row w a len zs) (hl : len ≤ 4096) (hne : ∀ b off, a = some ⟨b, off, none⟩ → b ≠ p)
    (HA : Hid (∀ W T, Kp [p] w W → W.heap[p]? = some (.cells (clC A wt (some ⟨T, 0, none⟩) none) 60 (0, 0)) → Calls Try.prog 27 #[.pointer (some ⟨p, 0, none⟩), cmV 3 i s z n q a2 len2 cap2 t l c b e u m o] W (OnePost W FC))) :
    Calls Try.prog 14 #[.pointer (some ⟨p, 0, none⟩), cmV 3 i s z n q a2 len2 cap2 t l c b e u m o, .slice a len cap, .int .i64 now] w (BegPost w p A wt i s false q now 3 zs len FC) := by
  have HC : Hid (∀ W, Kp [p] w W → Calls Try.prog 26 #[.slice a len cap] W fun e w' => (∃ a' cap', e = .returned (.slice a' len cap') ∧ Told W w' a' len cap' zs) ∧ Below W.heap.size W w') := fun W hk => clone8_any a len cap zs W (hr.kp hk hne) (by omega)
  have HP : Hid (w.heap[p]? = some (.cells (clC A wt tp rp) 60 (0, 0))) := hp
  have lp : p < w.heap.size := lt_of_heap hp
  have c3 : w.cell? ⟨p, 3, none⟩ = some (.pointer rp) := by rw [cell_of_row w _ 3 _ _ _ hp]; rfl
  have z3 : w.frozen? ⟨p, 3, none⟩ = false := froz11 w p 3 _ _ hp
  clear hp hr hl hne
  go_enter Try.func14, Try.ntmps14
  go_wp2_with fail
  clear c3 z3
  obtain ⟨w0, HW0⟩ : ∃ w0, Hid ((w.setCell ⟨p, 3, none⟩ (.pointer none)).alloc (.cells (cmC 3 i s z n q a2 len2 cap2 t l c b e u m o) 54) = w0) := ⟨_, rfl⟩
  have KP0 : Hid (Kp [p] w w0) := by show Kp _ _ _; rw [← HW0.out]; exact Kp.al (Kp.set (Kp.refl _ _) _ _ (.inl (by simp))) _
  have HP0 : Hid (w0.heap[p]? = some (.cells (clC A wt tp none) 60 (0, 0))) := by show _ = _; rw [← HW0.out]; exact ext11 (heap_setCell_same _ _ _ _ _ _ HP.out)
  have HX0 : Hid (w0.heap[w.heap.size]? = some (.cells (cmC 3 i s z n q a2 len2 cap2 t l c b e u m o) 54 (0, 0))) := by show _ = _; rw [← HW0.out]; exact at11 _ _ _ (by simp)
  rw [HW0.out]
  refine wp_region_held_drew (S := fun x => Kp [p] w x ∧ (∃ tq, x.heap[p]? = some (.cells (clC A wt tq none) 60 (0, 0))) ∧ x.heap[w.heap.size]? = some (.cells (cmC 3 i s z n q a2 len2 cap2 t l c b e u m o) 54 (0, 0))) (by kernel_rfl) (⟨Kp.drew KP0.out, ⟨_, HP0.out⟩, HX0.out⟩) (fun hHeld => ?_)
  refine tk 0 (.pointer (some ⟨p, 0, none⟩)) rfl (.inl ⟨by rfl, ?_⟩) ?_
  · intro w9 hSw
    try dsimp only at hSw
    go_simp
    all_goals try decide
    all_goals try assumption
    all_goals try omega
  try simp only [Act.put, gA, gS, gZ, sA, sZ, sS]
  refine tk 1 (.pointer (some ⟨w.heap.size, 1, none⟩)) rfl (.inl ⟨by rfl, ?_⟩) ?_
  · intro w9 hSw
    try dsimp only at hSw
    go_simp
    all_goals try decide
    all_goals try assumption
    all_goals try omega
  try simp only [Act.put, gA, gS, gZ, sA, sZ, sS]
  refine tk 2 (plV i s) rfl (.inl ⟨by rfl, ?_⟩) ?_
  · intro w9 hSw
    try dsimp only at hSw
    exact ex_load11 27 (.tmp 13) rfl _ _ rfl (load_part 27 2 sizeP aggP _ w.heap.size 1 [.int .u8 3, .int .u16 i, .int .u8 s, .bool z, .int .u32 n, .bool q, .slice a2 len2 cap2, .bool t, .bool l, .bool c, .int .i64 b, .int .i64 e, .int .u16 u, .int .i64 m, .int .u32 o] _ hSw.2.2 (by simp))
  try simp only [Act.put, gA, gS, gZ, sA, sZ, sS]
  refine tk 3 (.pointer (some ⟨w.heap.size, 0, none⟩)) rfl (.inl ⟨by rfl, ?_⟩) ?_
  · intro w9 hSw
    try dsimp only at hSw
    go_simp
    all_goals try decide
    all_goals try assumption
    all_goals try omega
  try simp only [Act.put, gA, gS, gZ, sA, sZ, sS]
  refine tk 4 (.int .u8 3) rfl (.inl ⟨by rfl, ?_⟩) ?_
  · intro w9 hSw
    try dsimp only at hSw
    have c0 : w9.cell? ⟨w.heap.size, 0, none⟩ = some (.int .u8 3) := by rw [cell_of_row _ _ 0 _ _ _ hSw.2.2]; rfl
    go_simp
    all_goals try assumption
  try simp only [Act.put, gA, gS, gZ, sA, sZ, sS]
  refine tk 5 (.bool false) rfl (.inl ⟨by rfl, ?_⟩) ?_
  · intro w9 hSw
    try dsimp only at hSw
    go_simp
    all_goals try decide
    all_goals try assumption
    all_goals try omega
  try simp only [Act.put, gA, gS, gZ, sA, sZ, sS]
  refine tk 6 (.bool false) rfl (.inl ⟨by rfl, ?_⟩) ?_
  · intro w9 hSw
    try dsimp only at hSw
    go_simp
    all_goals try decide
    all_goals try assumption
    all_goals try omega
  try simp only [Act.put, gA, gS, gZ, sA, sZ, sS]
  refine tk 7 (.pointer (some ⟨w.heap.size, 0, none⟩)) rfl (.inl ⟨by rfl, ?_⟩) ?_
  · intro w9 hSw
    try dsimp only at hSw
    go_simp
    all_goals try decide
    all_goals try assumption
    all_goals try omega
  try simp only [Act.put, gA, gS, gZ, sA, sZ, sS]
  refine tk 8 (.int .u8 3) rfl (.inl ⟨by rfl, ?_⟩) ?_
  · intro w9 hSw
    try dsimp only at hSw
    have c0 : w9.cell? ⟨w.heap.size, 0, none⟩ = some (.int .u8 3) := by rw [cell_of_row _ _ 0 _ _ _ hSw.2.2]; rfl
    go_simp
    all_goals try assumption
  try simp only [Act.put, gA, gS, gZ, sA, sZ, sS]
  refine tk 9 (.bool false) rfl (.inl ⟨by rfl, ?_⟩) ?_
  · intro w9 hSw
    try dsimp only at hSw
    go_simp
    all_goals try decide
    all_goals try assumption
    all_goals try omega
  try simp only [Act.put, gA, gS, gZ, sA, sZ, sS]
  refine tk 10 (.bool false) rfl (.inl ⟨by rfl, ?_⟩) ?_
  · intro w9 hSw
    try dsimp only at hSw
    go_simp
    all_goals try decide
    all_goals try assumption
    all_goals try omega
  try simp only [Act.put, gA, gS, gZ, sA, sZ, sS]
  refine tk 11 (.pointer (some ⟨w.heap.size, 5, none⟩)) rfl (.inl ⟨by rfl, ?_⟩) ?_
  · intro w9 hSw
    try dsimp only at hSw
    go_simp
    all_goals try decide
    all_goals try assumption
    all_goals try omega
  try simp only [Act.put, gA, gS, gZ, sA, sZ, sS]
  refine tk 12 (.bool q) rfl (.inl ⟨by rfl, ?_⟩) ?_
  · intro w9 hSw
    try dsimp only at hSw
    have c0 : w9.cell? ⟨w.heap.size, 5, none⟩ = some (.bool q) := by rw [cell_of_row _ _ 5 _ _ _ hSw.2.2]; rfl
    go_simp
    all_goals try assumption
  try simp only [Act.put, gA, gS, gZ, sA, sZ, sS]
  refine tk 13 (.int .i64 now) rfl (.inl ⟨by rfl, ?_⟩) ?_
  · intro w9 hSw
    try dsimp only at hSw
    go_simp
    all_goals try decide
    all_goals try assumption
    all_goals try omega
  try simp only [Act.put, gA, gS, gZ, sA, sZ, sS]
  refine tk 15 (.pointer (some ⟨w.heap.size, 0, none⟩)) rfl (.inl ⟨by rfl, ?_⟩) ?_
  · intro w9 hSw
    try dsimp only at hSw
    go_simp
    all_goals try decide
    all_goals try assumption
    all_goals try omega
  try simp only [Act.put, gA, gS, gZ, sA, sZ, sS]
  refine tk 16 (.int .u8 3) rfl (.inl ⟨by rfl, ?_⟩) ?_
  · intro w9 hSw
    try dsimp only at hSw
    have c0 : w9.cell? ⟨w.heap.size, 0, none⟩ = some (.int .u8 3) := by rw [cell_of_row _ _ 0 _ _ _ hSw.2.2]; rfl
    go_simp
    all_goals try assumption
  try simp only [Act.put, gA, gS, gZ, sA, sZ, sS]
  refine tk 17 (.slice a len cap) rfl (.inl ⟨by rfl, ?_⟩) ?_
  · intro w9 hSw
    try dsimp only at hSw
    go_simp
    all_goals try decide
    all_goals try assumption
    all_goals try omega
  try simp only [Act.put, gA, gS, gZ, sA, sZ, sS]
  refine wpAnyH_ready (rs := [14]) (by kernel_rfl) (by simp) ?_
  refine AllReadyH.cons rfl (fun K' hK => ?_) AllReadyH.nil
  rw [if_pos (by rfl)]
  simp only [gA, gS, gZ]
  go_wp2_with fail
  refine (timeOf_any now _).mono ?_
  rintro e z ⟨rfl, rfl⟩
  try go_wp2_with fail
  refine hK.out _ _ (hHeld) (fun hHeld => ?_)
  clear hK K'
  try simp only [Act.put, gA, gS, gZ, sA, sZ, sS]
  refine wpAnyH_ready (rs := [18]) (by kernel_rfl) (by simp) ?_
  refine AllReadyH.cons rfl (fun K' hK => ?_) AllReadyH.nil
  rw [if_pos (by rfl)]
  simp only [gA, gS, gZ]
  go_wp2_with fail
  refine (HC.out _ hHeld.1).mono ?_
  rintro e w1 ⟨⟨A9, C9, rfl, htold⟩, hbx⟩
  have HT : Hid (Told _ w1 A9 len C9 zs) := htold
  clear htold
  try go_wp2_with fail
  refine hK.out _ _ (⟨hHeld.1.trans (Kp.of hbx), hHeld.2.1.imp fun _ h => blk11 hbx h, blk11 hbx hHeld.2.2⟩) (fun hHeld => ?_)
  clear hK K'
  try simp only [Act.put, gA, gS, gZ, sA, sZ, sS]
  refine tk 19 (.agg (trC i s false q (tmN now) 3 false false A9 len C9 false 0 0 0 0)) rfl (.inl ⟨by rfl, ?_⟩) ?_
  · intro w9 hSw
    try dsimp only at hSw
    go_simp
    all_goals try decide
    all_goals try assumption
    all_goals try omega
  try simp only [Act.put, gA, gS, gZ, sA, sZ, sS]
  obtain ⟨tq, hq⟩ := hHeld.2.1
  have lp1 : p < w1.heap.size := lt_of_heap hq
  have ls1 : w.heap.size ≤ w1.heap.size := hHeld.1.size
  have lw1 : w.heap.size < w1.heap.size := lt_of_heap hHeld.2.2
  have HQ : Hid _ := hq
  clear hq
  refine wpAnyH_ready (rs := [20]) (by kernel_rfl) (by simp) ?_
  refine AllReadyH.cons rfl (fun K' hK => ?_) AllReadyH.nil
  rw [if_pos (by rfl)]
  simp only [gA, gS, gZ]
  go_wp2_with fail
  refine hK.out _ _ (⟨hHeld.1.al _, ⟨tq, ext11 HQ.out⟩, ext11 hHeld.2.2⟩) (fun hHeld => ?_)
  clear hK K'
  try simp only [Act.put, gA, gS, gZ, sA, sZ, sS]
  refine tk 21 (.pointer (some ⟨p, 0, none⟩)) rfl (.inl ⟨by rfl, ?_⟩) ?_
  · intro w9 hSw
    try dsimp only at hSw
    go_simp
    all_goals try decide
    all_goals try assumption
    all_goals try omega
  try simp only [Act.put, gA, gS, gZ, sA, sZ, sS]
  refine tk 22 (.pointer (some ⟨p, 2, none⟩)) rfl (.inl ⟨by rfl, ?_⟩) ?_
  · intro w9 hSw
    try dsimp only at hSw
    go_simp
    all_goals try decide
    all_goals try assumption
    all_goals try omega
  try simp only [Act.put, gA, gS, gZ, sA, sZ, sS]
  refine wpAnyH_ready (rs := [23]) (by kernel_rfl) (by simp) ?_
  refine AllReadyH.cons rfl (fun K' hK => ?_) AllReadyH.nil
  rw [if_pos (by rfl)]
  simp only [gA, gS, gZ]
  refine wp_store_by 57 _ _ rfl ⟨p, 2, none⟩ _ rfl rfl (store_ptr _ sizePT _ p 2 (some ⟨w1.heap.size, 0, none⟩) _ _ (ext11 HQ.out) (by simp)) ?_
  refine hK.out _ _ (⟨Kp.row hHeld.1 _ _ (.inl (by simp)), ⟨_, setRow_heap _ _ _ _ _ _ (ext11 HQ.out)⟩, (setRow_other _ _ _ _ (by omega)).trans hHeld.2.2⟩) (fun hHeld => ?_)
  clear hK K'
  try simp only [Act.put, gA, gS, gZ, sA, sZ, sS]
  refine wpAnyH_done (by kernel_rfl) ?_ _
  obtain ⟨W, HW⟩ : ∃ W, Hid ((w1.alloc (.cells (trC i s false q (tmN now) 3 false false A9 len C9 false 0 0 0 0) 65)).setRow p (clC A wt (some ⟨w1.heap.size, 0, none⟩) none) = W) := ⟨_, rfl⟩
  have HPW : Hid (W.heap[p]? = some (.cells (clC A wt (some ⟨w1.heap.size, 0, none⟩) none) 60 (0, 0))) := by show _ = _; rw [← HW.out]; exact setRow_heap _ _ _ _ _ _ (ext11 HQ.out)
  have HTW : Hid (W.heap[w1.heap.size]? = some (.cells (trC i s false q (tmN now) 3 false false A9 len C9 false 0 0 0 0) 65)) := by show _ = _; rw [← HW.out]; exact (setRow_other _ _ _ _ (by omega)).trans (at11 _ _ _ rfl)
  have HXW : Hid (W.heap[w.heap.size]? = some (.cells (cmC 3 i s z n q a2 len2 cap2 t l c b e u m o) 54 (0, 0))) := by show _ = _; rw [← HW.out]; exact hHeld.2.2
  have KPW : Hid (Kp [p] w W) := by show Kp _ _ _; rw [← HW.out]; exact hHeld.1
  have HTD : Hid (Told w W A9 len C9 zs) := by
    show Told _ _ _ _ _ _
    rw [← HW.out]
    refine HT.out.keep11 KP0.out.size (fun g h1 h2 => ?_)
    have h3 : w.heap.size ≤ g := Nat.le_trans KP0.out.size h1
    exact (setRow_other _ _ _ _ (by omega)).trans (Below.heap_alloc _ _ _ h2)
  have HNE : Hid (0 < len → ∀ b off, A9 = some ⟨b, off, none⟩ → b ≠ w1.heap.size) := fun h b off e => Nat.ne_of_lt (HT.out.row.old h b off e)
  rw [show (w1.alloc (.cells (trC i s false q (tmN now) 3 false false A9 len C9 false 0 0 0 0) 65)).setRow p _ = W from HW.out]
  clear hHeld HQ HT hbx HW
  go_wp2_with (refine wpList_load_by rfl 54 _ rfl ⟨w.heap.size, 0, none⟩ _ rfl (loadCM _ _ 3 i s z n q a2 len2 cap2 t l c b e u m o _ HXW.out) ?_)
  with_reducible refine (HA.out _ _ KPW.out HPW.out).mono ?_
  rintro r w2 ⟨g, rfl, hg1, hg2, hb⟩
  have HB2 : Hid (Below W.heap.size W w2) := hb
  have HG2 : Hid _ := hg2
  have hlt := lt_of_heap HTW.out
  clear hb hg2
  go_wp2_with fail
  go_ret
  exact ⟨w1.heap.size, g, A9, C9, rfl, KPW.out.trans (Kp.of HB2.out), blk11 HB2.out HPW.out, ls1, Nat.le_trans KPW.out.size hg1, by omega, blk11 HB2.out HTW.out, HG2.out, HTD.out.keep11 (Nat.le_refl _) (fun g' _ h => HB2.out.block g' h), HNE.out⟩

end Go.Proofs.Ytenfbebdfodmdaa
