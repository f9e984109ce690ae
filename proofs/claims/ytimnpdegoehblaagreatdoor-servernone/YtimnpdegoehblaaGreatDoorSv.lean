/-
  The walks of Ask and Answer.
-/
import Derived.Test.YtimnpdegoehblaaGreatDoorPa
import Derived.Test.YtimnpdegoehblaaGreatDoorSg
import Derived.Test.YtimnpdegoehblaaGreatDoorTk9
namespace Go.Proofs.YtimnpdegoehblaaGreatDoor
open Go.RowKit

theorem IsT.new (w : World) (tab : List Ln) : IsT (w.alloc (.cells (tab.flatMap Ln.c).toArray 105)) w.heap.size tab := heap_new _ _
theorem ex_load {o : Oper} {a : Act} {w : World} (ty : TypeId) (x : Operand) (ho : o.op = .load ty x) (ad : Addr) (v : Value) (hx : a.eval x = .pointer (some ad)) (hr : (loadVar ty ad).run Tryz.prog w = .ok v w) : (execOp a.eval o).run Tryz.prog w = .ok (.value v) w := by
  unfold execOp
  simp only [ho, hx, Instr.loadAt, Instr.sureAddr, Sem.run_bind, Sem.run_pure, Result.andThen_ok, hr]

set_option linter.unusedSimpArgs false in
set_option maxHeartbeats 4000000 in
set_option maxRecDepth 100000 in
theorem ask_any (x : Cm) (ok : x.Ok) (a : Option Addr) (cap : Nat) (w : World) (hr : Row w a x.d.length x.d) :
    Calls Tryz.prog 36 #[x.v a x.d.length cap] w (BPost w (askP x)) := by
  have HB : Hid (∀ (W : World) (g : Nat), g = W.heap.size → Below w.heap.size w W → Calls Tryz.prog 56 #[.slice (some ⟨g, 0, none⟩) 11 11, cmV x.k x.i x.s x.z x.n x.q a x.d.length cap x.t x.l x.c x.b x.e x.u x.m x.o] (W.alloc (.cells (askT.flatMap Ln.c).toArray 105)) (BPost (W.alloc (.cells (askT.flatMap Ln.c).toArray 105)) (askP x))) := fun W g hg hb => by subst hg; exact askB_any W.heap.size x ok a cap _ (IsT.new W askT) (hr.next (Below.al hb _))
  show Calls Tryz.prog 36 #[cmV x.k x.i x.s x.z x.n x.q a x.d.length cap x.t x.l x.c x.b x.e x.u x.m x.o] w (BPost w (askP x))
  generalize askP x = R at HB ⊢
  generalize hT : (.cells (askT.flatMap Ln.c).toArray 105 : Obj) = TT at HB
  have HA : Hid (∀ W, Calls Tryz.prog 43 #[] W fun e w' => e = .returned (.slice (some ⟨W.heap.size, 0, none⟩) 11 11) ∧ w' = W.alloc TT) := fun W => by rw [← hT]; exact asks_any W
  clear hT ok hr
  generalize x.d.length = len at HB ⊢
  obtain ⟨k, i, s, z, n, q, d, t, l, c, b, e, u, m, o⟩ := x
  dsimp only at HB ⊢
  have S0 : Below w.heap.size w ((w.alloc (.cells (cmC k i s z n q a len cap t l c b e u m o) 61)).alloc (.cells (ar8 0 0 0 0 0 0 0 0) 23)) ∧ ((w.alloc (.cells (cmC k i s z n q a len cap t l c b e u m o) 61)).alloc (.cells (ar8 0 0 0 0 0 0 0 0) 23)).heap[w.heap.size]? = some (.cells (cmC k i s z n q a len cap t l c b e u m o) 61 (0, 0)) ∧ ((w.alloc (.cells (cmC k i s z n q a len cap t l c b e u m o) 61)).alloc (.cells (ar8 0 0 0 0 0 0 0 0) 23)).heap[w.heap.size + 1]? = some (.cells (ar8 0 0 0 0 0 0 0 0) 23 (0, 0)) := by
    refine ⟨(by repeat (first | exact Below.refl _ _ | apply Below.drew | apply Below.al)), (Below.heap_alloc _ _ _ (by simp)).trans (heap_new _ _), ?_⟩
    have := heap_new (w.alloc (.cells (cmC k i s z n q a len cap t l c b e u m o) 61)) (.cells (ar8 0 0 0 0 0 0 0 0) 23)
    simpa using this
  have HS0 : Hid (Below w.heap.size w ((w.alloc (.cells (cmC k i s z n q a len cap t l c b e u m o) 61)).alloc (.cells (ar8 0 0 0 0 0 0 0 0) 23)) ∧ ((w.alloc (.cells (cmC k i s z n q a len cap t l c b e u m o) 61)).alloc (.cells (ar8 0 0 0 0 0 0 0 0) 23)).heap[w.heap.size]? = some (.cells (cmC k i s z n q a len cap t l c b e u m o) 61 (0, 0)) ∧ ((w.alloc (.cells (cmC k i s z n q a len cap t l c b e u m o) 61)).alloc (.cells (ar8 0 0 0 0 0 0 0 0) 23)).heap[w.heap.size + 1]? = some (.cells (ar8 0 0 0 0 0 0 0 0) 23 (0, 0))) := S0
  clear S0
  cases R with
  | none =>
    go_enter Tryz.func36, Tryz.ntmps36
    go_wp2_with fail
    refine wp_region_held_drew (S := fun x => Below w.heap.size w x ∧ x.heap[w.heap.size]? = some (.cells (cmC k i s z n q a len cap t l c b e u m o) 61 (0, 0)) ∧ ∃ C : Array Value, C.size = 8 ∧ x.heap[w.heap.size + 1]? = some (.cells C 23 (0, 0))) (by kernel_rfl) (⟨Below.drew HS0.out.1, HS0.out.2.1, _, rfl, HS0.out.2.2⟩) (fun hHeld => ?_)
    refine tk 1 (cmV k i s z n q a len cap t l c b e u m o) rfl (.inl ⟨by rfl, ?_⟩) ?_
    · intro w9 hSw
      try dsimp only at hSw
      obtain ⟨_, hbx, _⟩ := hSw
      exact ex_load 61 (.tmp 1) rfl _ _ rfl (loadCM _ _ _ _ _ _ _ _ _ _ _ _ _ _ _ _ _ _ _ _ hbx)
    try simp only [Act.put, gA, gS, gZ, sA, sZ, sS]
    refine wpAnyH_ready (rs := [0]) (by kernel_rfl) (by simp) ?_
    refine AllReadyH.cons rfl (fun K' hK => ?_) AllReadyH.nil
    rw [if_pos (by rfl)]
    simp only [gA, gS, gZ]
    go_wp2_with fail
    refine (HA.out _).mono ?_
    rintro r w1 ⟨rfl, rfl⟩
    try go_wp2_with fail
    refine hK.out _ _ (⟨Below.al (Below.drew HS0.out.1) _, (Below.heap_alloc _ _ _ (by first | (simp; done) | (simp; omega))).trans HS0.out.2.1, _, rfl, (Below.heap_alloc _ _ _ (by simp)).trans HS0.out.2.2⟩) (fun hHeld => ?_)
    clear hK K'
    try simp only [Act.put, gA, gS, gZ, sA, sZ, sS]
    refine wpAnyH_ready (rs := [2]) (by kernel_rfl) (by simp) ?_
    refine AllReadyH.cons rfl (fun K' hK => ?_) AllReadyH.nil
    rw [if_pos (by rfl)]
    simp only [gA, gS, gZ]
    go_wp2_with fail
    refine (HB.out (((w.alloc (.cells (cmC k i s z n q a len cap t l c b e u m o) 61)).alloc (.cells (ar8 0 0 0 0 0 0 0 0) 23))).drew _ (by simp) (Below.drew HS0.out.1)).mono ?_
    rintro r w2 ⟨rfl, hb⟩
    have B2 : Hid (Below w.heap.size w w2) := Below.andThen (Below.al (Below.drew HS0.out.1) _) hb
    have g1 : Hid (w2.heap[w.heap.size]? = some (.cells (cmC k i s z n q a len cap t l c b e u m o) 61 (0, 0))) := (hb.block _ (by first | (simp; done) | (simp; omega))).trans ((Below.heap_alloc _ _ _ (by first | (simp; done) | (simp; omega))).trans HS0.out.2.1)
    have g2 : Hid (w2.heap[w.heap.size + 1]? = some (.cells (ar8 0 0 0 0 0 0 0 0) 23 (0, 0))) := (hb.block _ (by first | (simp; done) | (simp; omega))).trans ((Below.heap_alloc _ _ _ (by simp)).trans HS0.out.2.2)
    clear hb
    try go_wp2_with fail
    refine hK.out _ _ (⟨B2.out, g1.out, _, rfl, g2.out⟩) (fun hHeld => ?_)
    clear hK K'
    try simp only [Act.put, gA, gS, gZ, sA, sZ, sS]
    refine tk 3 (arr8 0 0 0 0 0 0 0 0) rfl (.inl ⟨by rfl, ?_⟩) ?_
    · intro w9 hSw
      try dsimp only at hSw
      go_simp
      all_goals try decide
      all_goals try assumption
      all_goals try omega
    try simp only [Act.put, gA, gS, gZ, sA, sZ, sS]
    refine tk 4 (.int .i64 2) rfl (.inl ⟨by rfl, ?_⟩) ?_
    · intro w9 hSw
      try dsimp only at hSw
      go_simp
      all_goals try decide
      all_goals try assumption
      all_goals try omega
    try simp only [Act.put, gA, gS, gZ, sA, sZ, sS]
    refine wpAnyH_ready (rs := [5]) (by kernel_rfl) (by simp) ?_
    refine AllReadyH.cons rfl (fun K' hK => ?_) AllReadyH.nil
    rw [if_pos (by rfl)]
    simp only [gA, gS, gZ]
    refine wp_store_by 23 (.tmp 2) (.tmp 7) rfl _ _ rfl rfl (store8 _ _ _ 0 0 0 0 0 0 0 0 _ g2.out rfl) ?_
    refine hK.out _ _ (⟨below_setRow B2.out (Nat.le_succ _) _, (setRow_other _ _ _ _ (by omega)).trans g1.out, _, rfl, setRow_heap _ _ _ _ _ _ g2.out⟩) (fun hHeld => ?_)
    clear hK K'
    try simp only [Act.put, gA, gS, gZ, sA, sZ, sS]
    refine tk 6 (.int .i64 2) rfl (.inl ⟨by rfl, ?_⟩) ?_
    · intro w9 hSw
      try dsimp only at hSw
      go_simp
      all_goals try decide
      all_goals try assumption
      all_goals try omega
    try simp only [Act.put, gA, gS, gZ, sA, sZ, sS]
    refine wpAnyH_done (by kernel_rfl) ?_ _
    go_wp2_with fail
    have hc := fun j => cell_of_row (w2.setRow (w.heap.size + 1) (ar8 0 0 0 0 0 0 0 0)) (w.heap.size + 1) j _ _ _ (setRow_heap _ _ _ _ _ _ g2.out)
    exact bodyPost_ret (v := .tuple #[arr8 0 0 0 0 0 0 0 0, .int .i64 2]) (by simp [results, Tryz.results36, go_sem, hc]) rfl ⟨rfl, below_setRow B2.out (Nat.le_succ _) _⟩
  | some y =>
    obtain ⟨x0, x1, x2, x3, x4, x5, x6, x7⟩ := y
    go_enter Tryz.func36, Tryz.ntmps36
    go_wp2_with fail
    refine wp_region_held_drew (S := fun x => Below w.heap.size w x ∧ x.heap[w.heap.size]? = some (.cells (cmC k i s z n q a len cap t l c b e u m o) 61 (0, 0)) ∧ ∃ C : Array Value, C.size = 8 ∧ x.heap[w.heap.size + 1]? = some (.cells C 23 (0, 0))) (by kernel_rfl) (⟨Below.drew HS0.out.1, HS0.out.2.1, _, rfl, HS0.out.2.2⟩) (fun hHeld => ?_)
    refine tk 1 (cmV k i s z n q a len cap t l c b e u m o) rfl (.inl ⟨by rfl, ?_⟩) ?_
    · intro w9 hSw
      try dsimp only at hSw
      obtain ⟨_, hbx, _⟩ := hSw
      exact ex_load 61 (.tmp 1) rfl _ _ rfl (loadCM _ _ _ _ _ _ _ _ _ _ _ _ _ _ _ _ _ _ _ _ hbx)
    try simp only [Act.put, gA, gS, gZ, sA, sZ, sS]
    refine wpAnyH_ready (rs := [0]) (by kernel_rfl) (by simp) ?_
    refine AllReadyH.cons rfl (fun K' hK => ?_) AllReadyH.nil
    rw [if_pos (by rfl)]
    simp only [gA, gS, gZ]
    go_wp2_with fail
    refine (HA.out _).mono ?_
    rintro r w1 ⟨rfl, rfl⟩
    try go_wp2_with fail
    refine hK.out _ _ (⟨Below.al (Below.drew HS0.out.1) _, (Below.heap_alloc _ _ _ (by first | (simp; done) | (simp; omega))).trans HS0.out.2.1, _, rfl, (Below.heap_alloc _ _ _ (by simp)).trans HS0.out.2.2⟩) (fun hHeld => ?_)
    clear hK K'
    try simp only [Act.put, gA, gS, gZ, sA, sZ, sS]
    refine wpAnyH_ready (rs := [2]) (by kernel_rfl) (by simp) ?_
    refine AllReadyH.cons rfl (fun K' hK => ?_) AllReadyH.nil
    rw [if_pos (by rfl)]
    simp only [gA, gS, gZ]
    go_wp2_with fail
    refine (HB.out (((w.alloc (.cells (cmC k i s z n q a len cap t l c b e u m o) 61)).alloc (.cells (ar8 0 0 0 0 0 0 0 0) 23))).drew _ (by simp) (Below.drew HS0.out.1)).mono ?_
    rintro r w2 ⟨rfl, hb⟩
    have B2 : Hid (Below w.heap.size w w2) := Below.andThen (Below.al (Below.drew HS0.out.1) _) hb
    have g1 : Hid (w2.heap[w.heap.size]? = some (.cells (cmC k i s z n q a len cap t l c b e u m o) 61 (0, 0))) := (hb.block _ (by first | (simp; done) | (simp; omega))).trans ((Below.heap_alloc _ _ _ (by first | (simp; done) | (simp; omega))).trans HS0.out.2.1)
    have g2 : Hid (w2.heap[w.heap.size + 1]? = some (.cells (ar8 0 0 0 0 0 0 0 0) 23 (0, 0))) := (hb.block _ (by first | (simp; done) | (simp; omega))).trans ((Below.heap_alloc _ _ _ (by simp)).trans HS0.out.2.2)
    clear hb
    try go_wp2_with fail
    refine hK.out _ _ (⟨B2.out, g1.out, _, rfl, g2.out⟩) (fun hHeld => ?_)
    clear hK K'
    try simp only [Act.put, gA, gS, gZ, sA, sZ, sS]
    refine tk 3 (arr8 x0 x1 x2 x3 x4 x5 x6 x7) rfl (.inl ⟨by rfl, ?_⟩) ?_
    · intro w9 hSw
      try dsimp only at hSw
      go_simp
      all_goals try decide
      all_goals try assumption
      all_goals try omega
    try simp only [Act.put, gA, gS, gZ, sA, sZ, sS]
    refine tk 4 (.int .i64 0) rfl (.inl ⟨by rfl, ?_⟩) ?_
    · intro w9 hSw
      try dsimp only at hSw
      go_simp
      all_goals try decide
      all_goals try assumption
      all_goals try omega
    try simp only [Act.put, gA, gS, gZ, sA, sZ, sS]
    refine wpAnyH_ready (rs := [5]) (by kernel_rfl) (by simp) ?_
    refine AllReadyH.cons rfl (fun K' hK => ?_) AllReadyH.nil
    rw [if_pos (by rfl)]
    simp only [gA, gS, gZ]
    refine wp_store_by 23 (.tmp 2) (.tmp 7) rfl _ _ rfl rfl (store8 _ _ _ x0 x1 x2 x3 x4 x5 x6 x7 _ g2.out rfl) ?_
    refine hK.out _ _ (⟨below_setRow B2.out (Nat.le_succ _) _, (setRow_other _ _ _ _ (by omega)).trans g1.out, _, rfl, setRow_heap _ _ _ _ _ _ g2.out⟩) (fun hHeld => ?_)
    clear hK K'
    try simp only [Act.put, gA, gS, gZ, sA, sZ, sS]
    refine tk 6 (.int .i64 0) rfl (.inl ⟨by rfl, ?_⟩) ?_
    · intro w9 hSw
      try dsimp only at hSw
      go_simp
      all_goals try decide
      all_goals try assumption
      all_goals try omega
    try simp only [Act.put, gA, gS, gZ, sA, sZ, sS]
    refine wpAnyH_done (by kernel_rfl) ?_ _
    go_wp2_with fail
    have hc := fun j => cell_of_row (w2.setRow (w.heap.size + 1) (ar8 x0 x1 x2 x3 x4 x5 x6 x7)) (w.heap.size + 1) j _ _ _ (setRow_heap _ _ _ _ _ _ g2.out)
    exact bodyPost_ret (v := .tuple #[arr8 x0 x1 x2 x3 x4 x5 x6 x7, .int .i64 0]) (by simp [results, Tryz.results36, go_sem, hc]) rfl ⟨rfl, below_setRow B2.out (Nat.le_succ _) _⟩
#print axioms ask_any

set_option linter.unusedSimpArgs false in
set_option maxHeartbeats 4000000 in
set_option maxRecDepth 100000 in
theorem answer_any (x : Cm) (ok : x.Ok) (a : Option Addr) (cap : Nat) (w : World) (hr : Row w a x.d.length x.d) :
    Calls Tryz.prog 37 #[x.v a x.d.length cap] w (BPost w (ansP x)) := by
  have HB : Hid (∀ (W : World) (g : Nat), g = W.heap.size → Below w.heap.size w W → Calls Tryz.prog 56 #[.slice (some ⟨g, 0, none⟩) 10 10, cmV x.k x.i x.s x.z x.n x.q a x.d.length cap x.t x.l x.c x.b x.e x.u x.m x.o] (W.alloc (.cells (ansT.flatMap Ln.c).toArray 105)) (BPost (W.alloc (.cells (ansT.flatMap Ln.c).toArray 105)) (ansP x))) := fun W g hg hb => by subst hg; exact ansB_any W.heap.size x ok a cap _ (IsT.new W ansT) (hr.next (Below.al hb _))
  show Calls Tryz.prog 37 #[cmV x.k x.i x.s x.z x.n x.q a x.d.length cap x.t x.l x.c x.b x.e x.u x.m x.o] w (BPost w (ansP x))
  generalize ansP x = R at HB ⊢
  generalize hT : (.cells (ansT.flatMap Ln.c).toArray 105 : Obj) = TT at HB
  have HA : Hid (∀ W, Calls Tryz.prog 57 #[] W fun e w' => e = .returned (.slice (some ⟨W.heap.size, 0, none⟩) 10 10) ∧ w' = W.alloc TT) := fun W => by rw [← hT]; exact answers_any W
  clear hT ok hr
  generalize x.d.length = len at HB ⊢
  obtain ⟨k, i, s, z, n, q, d, t, l, c, b, e, u, m, o⟩ := x
  dsimp only at HB ⊢
  have S0 : Below w.heap.size w ((w.alloc (.cells (cmC k i s z n q a len cap t l c b e u m o) 61)).alloc (.cells (ar8 0 0 0 0 0 0 0 0) 23)) ∧ ((w.alloc (.cells (cmC k i s z n q a len cap t l c b e u m o) 61)).alloc (.cells (ar8 0 0 0 0 0 0 0 0) 23)).heap[w.heap.size]? = some (.cells (cmC k i s z n q a len cap t l c b e u m o) 61 (0, 0)) ∧ ((w.alloc (.cells (cmC k i s z n q a len cap t l c b e u m o) 61)).alloc (.cells (ar8 0 0 0 0 0 0 0 0) 23)).heap[w.heap.size + 1]? = some (.cells (ar8 0 0 0 0 0 0 0 0) 23 (0, 0)) := by
    refine ⟨(by repeat (first | exact Below.refl _ _ | apply Below.drew | apply Below.al)), (Below.heap_alloc _ _ _ (by simp)).trans (heap_new _ _), ?_⟩
    have := heap_new (w.alloc (.cells (cmC k i s z n q a len cap t l c b e u m o) 61)) (.cells (ar8 0 0 0 0 0 0 0 0) 23)
    simpa using this
  have HS0 : Hid (Below w.heap.size w ((w.alloc (.cells (cmC k i s z n q a len cap t l c b e u m o) 61)).alloc (.cells (ar8 0 0 0 0 0 0 0 0) 23)) ∧ ((w.alloc (.cells (cmC k i s z n q a len cap t l c b e u m o) 61)).alloc (.cells (ar8 0 0 0 0 0 0 0 0) 23)).heap[w.heap.size]? = some (.cells (cmC k i s z n q a len cap t l c b e u m o) 61 (0, 0)) ∧ ((w.alloc (.cells (cmC k i s z n q a len cap t l c b e u m o) 61)).alloc (.cells (ar8 0 0 0 0 0 0 0 0) 23)).heap[w.heap.size + 1]? = some (.cells (ar8 0 0 0 0 0 0 0 0) 23 (0, 0))) := S0
  clear S0
  cases R with
  | none =>
    go_enter Tryz.func37, Tryz.ntmps37
    go_wp2_with fail
    refine wp_region_held_drew (S := fun x => Below w.heap.size w x ∧ x.heap[w.heap.size]? = some (.cells (cmC k i s z n q a len cap t l c b e u m o) 61 (0, 0)) ∧ ∃ C : Array Value, C.size = 8 ∧ x.heap[w.heap.size + 1]? = some (.cells C 23 (0, 0))) (by kernel_rfl) (⟨Below.drew HS0.out.1, HS0.out.2.1, _, rfl, HS0.out.2.2⟩) (fun hHeld => ?_)
    refine tk 1 (cmV k i s z n q a len cap t l c b e u m o) rfl (.inl ⟨by rfl, ?_⟩) ?_
    · intro w9 hSw
      try dsimp only at hSw
      obtain ⟨_, hbx, _⟩ := hSw
      exact ex_load 61 (.tmp 1) rfl _ _ rfl (loadCM _ _ _ _ _ _ _ _ _ _ _ _ _ _ _ _ _ _ _ _ hbx)
    try simp only [Act.put, gA, gS, gZ, sA, sZ, sS]
    refine wpAnyH_ready (rs := [0]) (by kernel_rfl) (by simp) ?_
    refine AllReadyH.cons rfl (fun K' hK => ?_) AllReadyH.nil
    rw [if_pos (by rfl)]
    simp only [gA, gS, gZ]
    go_wp2_with fail
    refine (HA.out _).mono ?_
    rintro r w1 ⟨rfl, rfl⟩
    try go_wp2_with fail
    refine hK.out _ _ (⟨Below.al (Below.drew HS0.out.1) _, (Below.heap_alloc _ _ _ (by first | (simp; done) | (simp; omega))).trans HS0.out.2.1, _, rfl, (Below.heap_alloc _ _ _ (by simp)).trans HS0.out.2.2⟩) (fun hHeld => ?_)
    clear hK K'
    try simp only [Act.put, gA, gS, gZ, sA, sZ, sS]
    refine wpAnyH_ready (rs := [2]) (by kernel_rfl) (by simp) ?_
    refine AllReadyH.cons rfl (fun K' hK => ?_) AllReadyH.nil
    rw [if_pos (by rfl)]
    simp only [gA, gS, gZ]
    go_wp2_with fail
    refine (HB.out (((w.alloc (.cells (cmC k i s z n q a len cap t l c b e u m o) 61)).alloc (.cells (ar8 0 0 0 0 0 0 0 0) 23))).drew _ (by simp) (Below.drew HS0.out.1)).mono ?_
    rintro r w2 ⟨rfl, hb⟩
    have B2 : Hid (Below w.heap.size w w2) := Below.andThen (Below.al (Below.drew HS0.out.1) _) hb
    have g1 : Hid (w2.heap[w.heap.size]? = some (.cells (cmC k i s z n q a len cap t l c b e u m o) 61 (0, 0))) := (hb.block _ (by first | (simp; done) | (simp; omega))).trans ((Below.heap_alloc _ _ _ (by first | (simp; done) | (simp; omega))).trans HS0.out.2.1)
    have g2 : Hid (w2.heap[w.heap.size + 1]? = some (.cells (ar8 0 0 0 0 0 0 0 0) 23 (0, 0))) := (hb.block _ (by first | (simp; done) | (simp; omega))).trans ((Below.heap_alloc _ _ _ (by simp)).trans HS0.out.2.2)
    clear hb
    try go_wp2_with fail
    refine hK.out _ _ (⟨B2.out, g1.out, _, rfl, g2.out⟩) (fun hHeld => ?_)
    clear hK K'
    try simp only [Act.put, gA, gS, gZ, sA, sZ, sS]
    refine tk 3 (arr8 0 0 0 0 0 0 0 0) rfl (.inl ⟨by rfl, ?_⟩) ?_
    · intro w9 hSw
      try dsimp only at hSw
      go_simp
      all_goals try decide
      all_goals try assumption
      all_goals try omega
    try simp only [Act.put, gA, gS, gZ, sA, sZ, sS]
    refine tk 4 (.int .i64 2) rfl (.inl ⟨by rfl, ?_⟩) ?_
    · intro w9 hSw
      try dsimp only at hSw
      go_simp
      all_goals try decide
      all_goals try assumption
      all_goals try omega
    try simp only [Act.put, gA, gS, gZ, sA, sZ, sS]
    refine wpAnyH_ready (rs := [5]) (by kernel_rfl) (by simp) ?_
    refine AllReadyH.cons rfl (fun K' hK => ?_) AllReadyH.nil
    rw [if_pos (by rfl)]
    simp only [gA, gS, gZ]
    refine wp_store_by 23 (.tmp 2) (.tmp 7) rfl _ _ rfl rfl (store8 _ _ _ 0 0 0 0 0 0 0 0 _ g2.out rfl) ?_
    refine hK.out _ _ (⟨below_setRow B2.out (Nat.le_succ _) _, (setRow_other _ _ _ _ (by omega)).trans g1.out, _, rfl, setRow_heap _ _ _ _ _ _ g2.out⟩) (fun hHeld => ?_)
    clear hK K'
    try simp only [Act.put, gA, gS, gZ, sA, sZ, sS]
    refine tk 6 (.int .i64 2) rfl (.inl ⟨by rfl, ?_⟩) ?_
    · intro w9 hSw
      try dsimp only at hSw
      go_simp
      all_goals try decide
      all_goals try assumption
      all_goals try omega
    try simp only [Act.put, gA, gS, gZ, sA, sZ, sS]
    refine wpAnyH_done (by kernel_rfl) ?_ _
    go_wp2_with fail
    have hc := fun j => cell_of_row (w2.setRow (w.heap.size + 1) (ar8 0 0 0 0 0 0 0 0)) (w.heap.size + 1) j _ _ _ (setRow_heap _ _ _ _ _ _ g2.out)
    exact bodyPost_ret (v := .tuple #[arr8 0 0 0 0 0 0 0 0, .int .i64 2]) (by simp [results, Tryz.results37, go_sem, hc]) rfl ⟨rfl, below_setRow B2.out (Nat.le_succ _) _⟩
  | some y =>
    obtain ⟨x0, x1, x2, x3, x4, x5, x6, x7⟩ := y
    go_enter Tryz.func37, Tryz.ntmps37
    go_wp2_with fail
    refine wp_region_held_drew (S := fun x => Below w.heap.size w x ∧ x.heap[w.heap.size]? = some (.cells (cmC k i s z n q a len cap t l c b e u m o) 61 (0, 0)) ∧ ∃ C : Array Value, C.size = 8 ∧ x.heap[w.heap.size + 1]? = some (.cells C 23 (0, 0))) (by kernel_rfl) (⟨Below.drew HS0.out.1, HS0.out.2.1, _, rfl, HS0.out.2.2⟩) (fun hHeld => ?_)
    refine tk 1 (cmV k i s z n q a len cap t l c b e u m o) rfl (.inl ⟨by rfl, ?_⟩) ?_
    · intro w9 hSw
      try dsimp only at hSw
      obtain ⟨_, hbx, _⟩ := hSw
      exact ex_load 61 (.tmp 1) rfl _ _ rfl (loadCM _ _ _ _ _ _ _ _ _ _ _ _ _ _ _ _ _ _ _ _ hbx)
    try simp only [Act.put, gA, gS, gZ, sA, sZ, sS]
    refine wpAnyH_ready (rs := [0]) (by kernel_rfl) (by simp) ?_
    refine AllReadyH.cons rfl (fun K' hK => ?_) AllReadyH.nil
    rw [if_pos (by rfl)]
    simp only [gA, gS, gZ]
    go_wp2_with fail
    refine (HA.out _).mono ?_
    rintro r w1 ⟨rfl, rfl⟩
    try go_wp2_with fail
    refine hK.out _ _ (⟨Below.al (Below.drew HS0.out.1) _, (Below.heap_alloc _ _ _ (by first | (simp; done) | (simp; omega))).trans HS0.out.2.1, _, rfl, (Below.heap_alloc _ _ _ (by simp)).trans HS0.out.2.2⟩) (fun hHeld => ?_)
    clear hK K'
    try simp only [Act.put, gA, gS, gZ, sA, sZ, sS]
    refine wpAnyH_ready (rs := [2]) (by kernel_rfl) (by simp) ?_
    refine AllReadyH.cons rfl (fun K' hK => ?_) AllReadyH.nil
    rw [if_pos (by rfl)]
    simp only [gA, gS, gZ]
    go_wp2_with fail
    refine (HB.out (((w.alloc (.cells (cmC k i s z n q a len cap t l c b e u m o) 61)).alloc (.cells (ar8 0 0 0 0 0 0 0 0) 23))).drew _ (by simp) (Below.drew HS0.out.1)).mono ?_
    rintro r w2 ⟨rfl, hb⟩
    have B2 : Hid (Below w.heap.size w w2) := Below.andThen (Below.al (Below.drew HS0.out.1) _) hb
    have g1 : Hid (w2.heap[w.heap.size]? = some (.cells (cmC k i s z n q a len cap t l c b e u m o) 61 (0, 0))) := (hb.block _ (by first | (simp; done) | (simp; omega))).trans ((Below.heap_alloc _ _ _ (by first | (simp; done) | (simp; omega))).trans HS0.out.2.1)
    have g2 : Hid (w2.heap[w.heap.size + 1]? = some (.cells (ar8 0 0 0 0 0 0 0 0) 23 (0, 0))) := (hb.block _ (by first | (simp; done) | (simp; omega))).trans ((Below.heap_alloc _ _ _ (by simp)).trans HS0.out.2.2)
    clear hb
    try go_wp2_with fail
    refine hK.out _ _ (⟨B2.out, g1.out, _, rfl, g2.out⟩) (fun hHeld => ?_)
    clear hK K'
    try simp only [Act.put, gA, gS, gZ, sA, sZ, sS]
    refine tk 3 (arr8 x0 x1 x2 x3 x4 x5 x6 x7) rfl (.inl ⟨by rfl, ?_⟩) ?_
    · intro w9 hSw
      try dsimp only at hSw
      go_simp
      all_goals try decide
      all_goals try assumption
      all_goals try omega
    try simp only [Act.put, gA, gS, gZ, sA, sZ, sS]
    refine tk 4 (.int .i64 0) rfl (.inl ⟨by rfl, ?_⟩) ?_
    · intro w9 hSw
      try dsimp only at hSw
      go_simp
      all_goals try decide
      all_goals try assumption
      all_goals try omega
    try simp only [Act.put, gA, gS, gZ, sA, sZ, sS]
    refine wpAnyH_ready (rs := [5]) (by kernel_rfl) (by simp) ?_
    refine AllReadyH.cons rfl (fun K' hK => ?_) AllReadyH.nil
    rw [if_pos (by rfl)]
    simp only [gA, gS, gZ]
    refine wp_store_by 23 (.tmp 2) (.tmp 7) rfl _ _ rfl rfl (store8 _ _ _ x0 x1 x2 x3 x4 x5 x6 x7 _ g2.out rfl) ?_
    refine hK.out _ _ (⟨below_setRow B2.out (Nat.le_succ _) _, (setRow_other _ _ _ _ (by omega)).trans g1.out, _, rfl, setRow_heap _ _ _ _ _ _ g2.out⟩) (fun hHeld => ?_)
    clear hK K'
    try simp only [Act.put, gA, gS, gZ, sA, sZ, sS]
    refine tk 6 (.int .i64 0) rfl (.inl ⟨by rfl, ?_⟩) ?_
    · intro w9 hSw
      try dsimp only at hSw
      go_simp
      all_goals try decide
      all_goals try assumption
      all_goals try omega
    try simp only [Act.put, gA, gS, gZ, sA, sZ, sS]
    refine wpAnyH_done (by kernel_rfl) ?_ _
    go_wp2_with fail
    have hc := fun j => cell_of_row (w2.setRow (w.heap.size + 1) (ar8 x0 x1 x2 x3 x4 x5 x6 x7)) (w.heap.size + 1) j _ _ _ (setRow_heap _ _ _ _ _ _ g2.out)
    exact bodyPost_ret (v := .tuple #[arr8 x0 x1 x2 x3 x4 x5 x6 x7, .int .i64 0]) (by simp [results, Tryz.results37, go_sem, hc]) rfl ⟨rfl, below_setRow B2.out (Nat.le_succ _) _⟩
#print axioms answer_any

end Go.Proofs.YtimnpdegoehblaaGreatDoor
