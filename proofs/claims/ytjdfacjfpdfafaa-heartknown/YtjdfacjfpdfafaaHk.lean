/-
  The walk of beaten: whose beat a frame is, and of what state.
-/
import Derived.Test.YtjdfacjfpdfafaaHj
namespace Go.Proofs.Ytjdfacjfpdfafaa
open Go.RowKit

theorem ex_load11 {o : Oper} {a : Act} {w : World} (ty : TypeId) (x : Operand) (ho : o.op = .load ty x) (ad : Addr) (v : Value) (hx : a.eval x = .pointer (some ad)) (hr : (loadVar ty ad).run Try.prog w = .ok v w) : (execOp a.eval o).run Try.prog w = .ok (.value v) w := by
  unfold execOp
  simp only [ho, hx, Instr.loadAt, Instr.sureAddr, Sem.run_bind, Sem.run_pure, Result.andThen_ok, hr]
/-- Is a frame a beat of a node that may be? -/
def btB (i n d0 d1 d2 d3 d4 d5 d6 d7 : Int) (r : Bool) : Bool := ndB (i - 1792) && (stB d0 && sameF i n d0 d1 d2 d3 d4 d5 d6 d7 r i 1 d0 0 0 0 0 0 0 0 false)
theorem btB_of {i n d0 d1 d2 d3 d4 d5 d6 d7 : Int} {r : Bool} (h : btB i n d0 d1 d2 d3 d4 d5 d6 d7 r = true) : ndB (i - 1792) = true ∧ stB d0 = true ∧ frV i n d0 d1 d2 d3 d4 d5 d6 d7 r = beV (i - 1792) d0 := by
  unfold btB sameF same8 at h
  simp only [Bool.and_eq_true, beq_iff_eq] at h
  obtain ⟨h1, h2, _, h3, ⟨_, h4, h5, h6, h7, h8, h9, h10, _⟩, h11⟩ := h
  refine ⟨h1, h2, ?_⟩
  subst h3 h4 h5 h6 h7 h8 h9 h10 h11
  show frV i 1 d0 0 0 0 0 0 0 0 false = frV (1792 + (i - 1792)) 1 d0 0 0 0 0 0 0 0 false
  rw [show (1792 : Int) + (i - 1792) = i from by omega]
/-- What beaten tells. -/
abbrev btV (i n d0 d1 d2 d3 d4 d5 d6 d7 : Int) (r : Bool) : Value := .tuple #[.int .u8 (if btB i n d0 d1 d2 d3 d4 d5 d6 d7 r = true then i - 1792 else 0), .int .u8 (if btB i n d0 d1 d2 d3 d4 d5 d6 d7 r = true then d0 else 0), .bool (btB i n d0 d1 d2 d3 d4 d5 d6 d7 r)]
set_option linter.unusedSimpArgs false in
set_option maxHeartbeats 4000000 in
set_option maxRecDepth 100000 in
theorem beaten_any (i n d0 d1 d2 d3 d4 d5 d6 d7 : Int) (r : Bool) (hi : 0 ≤ i ∧ i < 65536) (hd : 0 ≤ d0 ∧ d0 < 256) (w : World) : Calls Try.prog 37 #[frV i n d0 d1 d2 d3 d4 d5 d6 d7 r] w fun e w' => e = .returned (btV i n d0 d1 d2 d3 d4 d5 d6 d7 r) ∧ Below w.heap.size w w' := by
  obtain ⟨a, ha⟩ : ∃ a, Hid (a = (i - 1792) % 256) := ⟨_, rfl⟩
  have a0 : Hid (0 ≤ a ∧ a < 256) := by show _ ∧ _; rw [ha.out]; omega
  have V1 : IntKind.u16.wrap (i - 1792) = (i - 1792) % 65536 := by rw [IntKind.wrap_u16]
  have V2 : IntKind.u8.wrap ((i - 1792) % 65536) = a := by rw [IntKind.wrap_u8, ha.out]; omega
  have II : Hid (0 ≤ i ∧ i < 65536) := hi
  have HD : Hid (0 ≤ d0 ∧ d0 < 256) := hd
  have IN := fun W => isNode_any a W
  have IS := fun W => isState_any d0 W
  have BE : Hid (∀ W, Calls Try.prog 34 #[.int .u8 a, .int .u8 d0] W fun e w' => e = .returned (beV a d0) ∧ Below W.heap.size W w') := fun W => beat_any a d0 a0.out hd W
  have GB : w.heap[w.heap.size]? = none := by simp
  clear hi hd GB
  obtain ⟨RV, hRV⟩ : ∃ RV, Hid (RV = btV i n d0 d1 d2 d3 d4 d5 d6 d7 r) := ⟨_, rfl⟩
  rw [← hRV.out]
  -- no beat
  have bad : ndB a = false ∨ stB d0 = false ∨ sameF i n d0 d1 d2 d3 d4 d5 d6 d7 r (1792 + a) 1 d0 0 0 0 0 0 0 0 false = false → Hid (RV = .tuple #[.int .u8 0, .int .u8 0, .bool false]) := fun hb => by
    have e : btB i n d0 d1 d2 d3 d4 d5 d6 d7 r = false := by
      cases q : btB i n d0 d1 d2 d3 d4 d5 d6 d7 r with
      | false => rfl
      | true =>
        exfalso
        obtain ⟨h1, h2, _⟩ := btB_of q
        have h0 := ndB_of h1
        have ea : a = i - 1792 := by rw [ha.out]; omega
        rw [ea, show (1792 : Int) + (i - 1792) = i from by omega] at hb
        unfold btB at q
        simp only [Bool.and_eq_true] at q
        rcases hb with hb | hb | hb
        · rw [h1] at hb; cases hb
        · rw [h2] at hb; cases hb
        · rw [q.2.2] at hb; cases hb
    show _ = _
    rw [hRV.out, btV, e]
    rfl
  have good : ndB a = true → stB d0 = true → sameF i n d0 d1 d2 d3 d4 d5 d6 d7 r (1792 + a) 1 d0 0 0 0 0 0 0 0 false = true → Hid (RV = .tuple #[.int .u8 a, .int .u8 d0, .bool true]) := fun h1 h2 h3 => by
    have e0 : i = 1792 + a := by unfold sameF at h3; simp only [Bool.and_eq_true, beq_iff_eq] at h3; exact h3.1
    have ea : i - 1792 = a := by omega
    have e : btB i n d0 d1 d2 d3 d4 d5 d6 d7 r = true := by
      unfold btB
      rw [ea, h1, h2]
      rw [← e0] at h3
      simpa using h3
    show _ = _
    rw [hRV.out, btV, e, ea]
    rfl
  have NQ : ∀ W : World, (binOp .neq 37 (frV i n d0 d1 d2 d3 d4 d5 d6 d7 r) (beV a d0)).run Try.prog W = .ok (.bool (!sameF i n d0 d1 d2 d3 d4 d5 d6 d7 r (1792 + a) 1 d0 0 0 0 0 0 0 0 false)) W := fun W => neqF W _ _ _ _ _ _ _ _ _ _ _ _ _ _ _ _ _ _ _ _ _ _
  clear ha hRV
  cases hn : ndB a with
  | false =>
    have E := bad (.inl hn)
    rw [hn] at IN
    clear bad good hn
    go_enter Try.func37, Try.ntmps37
    go_wp2_with fail
    have HF0 := at11 w (.cells (frC i n d0 d1 d2 d3 d4 d5 d6 d7 r) 37) w.heap.size rfl
    go_quiet (fail)
    go_wp2_with fail
    have HF : Hid (((w.alloc (.cells (frC i n d0 d1 d2 d3 d4 d5 d6 d7 r) 37)).drewN nq).heap[w.heap.size]? = some (.cells (frC i n d0 d1 d2 d3 d4 d5 d6 d7 r) 37 (0, 0))) := blk11 (below_drewN (Below.refl _ _) _) HF0
    have HY : Hid (Below w.heap.size w ((w.alloc (.cells (frC i n d0 d1 d2 d3 d4 d5 d6 d7 r) 37)).drewN nq)) := below_drewN (by repeat (first | exact Below.refl _ _ | apply Below.drew | apply Below.al)) _
    generalize hy : (((w.alloc (.cells (frC i n d0 d1 d2 d3 d4 d5 d6 d7 r) 37)).drewN nq) : World) = y at HF HY ⊢
    clear hy HF0
    refine wp_region_held_drew (S := fun x1 => Below y.heap.size y x1) (by kernel_rfl) (Below.drew (Below.refl _ _)) (fun hHeld => ?_)
    refine wpAnyH_take (i := 0) (v := (.int .u8 a)) rfl (by kernel_rfl) (by kernel_rfl) (by kernel_rfl) (fun _ _ _ h => h) (Or.inl ⟨by rfl, ?_⟩) (by assumption) ?_
    · intro w9 hSw
      try dsimp only at hSw
      go_simp
      all_goals try decide
      all_goals try assumption
      all_goals try omega
    try simp only [Act.put, List.getElem_toArray, List.getElem_cons_succ, List.getElem_cons_zero, List.setIfInBounds_toArray, List.set_cons_zero, List.set_cons_succ]
    refine wpAnyH_ready (rs := [1]) (by kernel_rfl) (by simp) ?_
    refine AllReadyH.cons rfl (fun K' hK => ?_) AllReadyH.nil
    rw [if_pos (by rfl)]
    simp only [List.getElem_toArray, List.getElem_cons_succ, List.getElem_cons_zero]
    have S0 := hHeld
    go_wp2_with fail
    refine (IN _).mono ?_
    rintro e w1 ⟨rfl, rfl⟩
    try go_wp2_with fail
    refine hK.out _ _ (S0) (fun hHeld => ?_)
    clear hK K'
    try simp only [Act.put, List.getElem_toArray, List.getElem_cons_succ, List.getElem_cons_zero, List.setIfInBounds_toArray, List.set_cons_zero, List.set_cons_succ]
    refine wpAnyH_take (i := 2) (v := (.bool true)) rfl (by kernel_rfl) (by kernel_rfl) (by kernel_rfl) (fun _ _ _ h => h) (Or.inl ⟨by rfl, ?_⟩) (by assumption) ?_
    · intro w9 hSw
      try dsimp only at hSw
      go_simp
      all_goals try decide
      all_goals try assumption
      all_goals try omega
    try simp only [Act.put, List.getElem_toArray, List.getElem_cons_succ, List.getElem_cons_zero, List.setIfInBounds_toArray, List.set_cons_zero, List.set_cons_succ]
    refine wpAnyH_take (i := 3) (v := (.bool true)) rfl (by kernel_rfl) (by kernel_rfl) (by kernel_rfl) (fun _ _ _ h => h) (Or.inl ⟨by rfl, ?_⟩) (by assumption) ?_
    · intro w9 hSw
      try dsimp only at hSw
      go_simp
      all_goals try decide
      all_goals try assumption
      all_goals try omega
    try simp only [Act.put, List.getElem_toArray, List.getElem_cons_succ, List.getElem_cons_zero, List.setIfInBounds_toArray, List.set_cons_zero, List.set_cons_succ]
    refine wpAnyH_take (i := 4) (v := undef) rfl (by kernel_rfl) (by kernel_rfl) (by kernel_rfl) (fun _ _ _ h => h) (Or.inr ⟨by rfl, rfl⟩) (by assumption) ?_
    try simp only [Act.put, List.getElem_toArray, List.getElem_cons_succ, List.getElem_cons_zero, List.setIfInBounds_toArray, List.set_cons_zero, List.set_cons_succ]
    refine wpAnyH_take (i := 5) (v := undef) rfl (by kernel_rfl) (by kernel_rfl) (by kernel_rfl) (fun _ _ _ h => h) (Or.inr ⟨by rfl, rfl⟩) (by assumption) ?_
    try simp only [Act.put, List.getElem_toArray, List.getElem_cons_succ, List.getElem_cons_zero, List.setIfInBounds_toArray, List.set_cons_zero, List.set_cons_succ]
    refine wpAnyH_take (i := 6) (v := undef) rfl (by kernel_rfl) (by kernel_rfl) (by kernel_rfl) (fun _ _ _ h => h) (Or.inr ⟨by rfl, rfl⟩) (by assumption) ?_
    try simp only [Act.put, List.getElem_toArray, List.getElem_cons_succ, List.getElem_cons_zero, List.setIfInBounds_toArray, List.set_cons_zero, List.set_cons_succ]
    refine wpAnyH_take (i := 7) (v := (.bool true)) rfl (by kernel_rfl) (by kernel_rfl) (by kernel_rfl) (fun _ _ _ h => h) (Or.inl ⟨by rfl, ?_⟩) (by assumption) ?_
    · intro w9 hSw
      try dsimp only at hSw
      go_simp
      all_goals try decide
      all_goals try assumption
      all_goals try omega
    try simp only [Act.put, List.getElem_toArray, List.getElem_cons_succ, List.getElem_cons_zero, List.setIfInBounds_toArray, List.set_cons_zero, List.set_cons_succ]
    refine wpAnyH_take (i := 8) (v := (.bool true)) rfl (by kernel_rfl) (by kernel_rfl) (by kernel_rfl) (fun _ _ _ h => h) (Or.inl ⟨by rfl, ?_⟩) (by assumption) ?_
    · intro w9 hSw
      try dsimp only at hSw
      go_simp
      all_goals try decide
      all_goals try assumption
      all_goals try omega
    try simp only [Act.put, List.getElem_toArray, List.getElem_cons_succ, List.getElem_cons_zero, List.setIfInBounds_toArray, List.set_cons_zero, List.set_cons_succ]
    refine wpAnyH_take (i := 9) (v := undef) rfl (by kernel_rfl) (by kernel_rfl) (by kernel_rfl) (fun _ _ _ h => h) (Or.inr ⟨by rfl, rfl⟩) (by assumption) ?_
    try simp only [Act.put, List.getElem_toArray, List.getElem_cons_succ, List.getElem_cons_zero, List.setIfInBounds_toArray, List.set_cons_zero, List.set_cons_succ]
    refine wpAnyH_take (i := 10) (v := undef) rfl (by kernel_rfl) (by kernel_rfl) (by kernel_rfl) (fun _ _ _ h => h) (Or.inr ⟨by rfl, rfl⟩) (by assumption) ?_
    try simp only [Act.put, List.getElem_toArray, List.getElem_cons_succ, List.getElem_cons_zero, List.setIfInBounds_toArray, List.set_cons_zero, List.set_cons_succ]
    refine wpAnyH_take (i := 11) (v := undef) rfl (by kernel_rfl) (by kernel_rfl) (by kernel_rfl) (fun _ _ _ h => h) (Or.inr ⟨by rfl, rfl⟩) (by assumption) ?_
    try simp only [Act.put, List.getElem_toArray, List.getElem_cons_succ, List.getElem_cons_zero, List.setIfInBounds_toArray, List.set_cons_zero, List.set_cons_succ]
    refine wpAnyH_take (i := 12) (v := undef) rfl (by kernel_rfl) (by kernel_rfl) (by kernel_rfl) (fun _ _ _ h => h) (Or.inr ⟨by rfl, rfl⟩) (by assumption) ?_
    try simp only [Act.put, List.getElem_toArray, List.getElem_cons_succ, List.getElem_cons_zero, List.setIfInBounds_toArray, List.set_cons_zero, List.set_cons_succ]
    refine wpAnyH_take (i := 13) (v := undef) rfl (by kernel_rfl) (by kernel_rfl) (by kernel_rfl) (fun _ _ _ h => h) (Or.inr ⟨by rfl, rfl⟩) (by assumption) ?_
    try simp only [Act.put, List.getElem_toArray, List.getElem_cons_succ, List.getElem_cons_zero, List.setIfInBounds_toArray, List.set_cons_zero, List.set_cons_succ]
    refine wpAnyH_take (i := 14) (v := (.bool true)) rfl (by kernel_rfl) (by kernel_rfl) (by kernel_rfl) (fun _ _ _ h => h) (Or.inl ⟨by rfl, ?_⟩) (by assumption) ?_
    · intro w9 hSw
      try dsimp only at hSw
      go_simp
      all_goals try decide
      all_goals try assumption
      all_goals try omega
    try simp only [Act.put, List.getElem_toArray, List.getElem_cons_succ, List.getElem_cons_zero, List.setIfInBounds_toArray, List.set_cons_zero, List.set_cons_succ]
    refine wpAnyH_done (by kernel_rfl) ?_ _
    have y0 := hHeld
    clear hHeld
    go_wp2_with fail
    exact bodyPost_ret (v := .tuple #[.int .u8 0, .int .u8 0, .bool false]) (by simp [results, Try.results37, go_sem]) rfl ⟨by rw [E.out], Below.andThen HY.out y0⟩
  | true =>
    rw [hn] at IN
    cases hs : stB d0 with
    | false =>
      have E := bad (.inr (.inl hs))
      rw [hs] at IS
      clear bad good hn hs
      go_enter Try.func37, Try.ntmps37
      go_wp2_with fail
      have HF0 := at11 w (.cells (frC i n d0 d1 d2 d3 d4 d5 d6 d7 r) 37) w.heap.size rfl
      go_quiet (fail)
      go_wp2_with fail
      have HF : Hid (((w.alloc (.cells (frC i n d0 d1 d2 d3 d4 d5 d6 d7 r) 37)).drewN nq).heap[w.heap.size]? = some (.cells (frC i n d0 d1 d2 d3 d4 d5 d6 d7 r) 37 (0, 0))) := blk11 (below_drewN (Below.refl _ _) _) HF0
      have HY : Hid (Below w.heap.size w ((w.alloc (.cells (frC i n d0 d1 d2 d3 d4 d5 d6 d7 r) 37)).drewN nq)) := below_drewN (by repeat (first | exact Below.refl _ _ | apply Below.drew | apply Below.al)) _
      generalize hy : (((w.alloc (.cells (frC i n d0 d1 d2 d3 d4 d5 d6 d7 r) 37)).drewN nq) : World) = y at HF HY ⊢
      clear hy HF0
      refine wp_region_held_drew (S := fun x1 => Below y.heap.size y x1) (by kernel_rfl) (Below.drew (Below.refl _ _)) (fun hHeld => ?_)
      refine wpAnyH_take (i := 0) (v := (.int .u8 a)) rfl (by kernel_rfl) (by kernel_rfl) (by kernel_rfl) (fun _ _ _ h => h) (Or.inl ⟨by rfl, ?_⟩) (by assumption) ?_
      · intro w9 hSw
        try dsimp only at hSw
        go_simp
        all_goals try decide
        all_goals try assumption
        all_goals try omega
      try simp only [Act.put, List.getElem_toArray, List.getElem_cons_succ, List.getElem_cons_zero, List.setIfInBounds_toArray, List.set_cons_zero, List.set_cons_succ]
      refine wpAnyH_ready (rs := [1]) (by kernel_rfl) (by simp) ?_
      refine AllReadyH.cons rfl (fun K' hK => ?_) AllReadyH.nil
      rw [if_pos (by rfl)]
      simp only [List.getElem_toArray, List.getElem_cons_succ, List.getElem_cons_zero]
      have S0 := hHeld
      go_wp2_with fail
      refine (IN _).mono ?_
      rintro e w1 ⟨rfl, rfl⟩
      try go_wp2_with fail
      refine hK.out _ _ (S0) (fun hHeld => ?_)
      clear hK K'
      try simp only [Act.put, List.getElem_toArray, List.getElem_cons_succ, List.getElem_cons_zero, List.setIfInBounds_toArray, List.set_cons_zero, List.set_cons_succ]
      refine wpAnyH_take (i := 2) (v := (.bool false)) rfl (by kernel_rfl) (by kernel_rfl) (by kernel_rfl) (fun _ _ _ h => h) (Or.inl ⟨by rfl, ?_⟩) (by assumption) ?_
      · intro w9 hSw
        try dsimp only at hSw
        go_simp
        all_goals try decide
        all_goals try assumption
        all_goals try omega
      try simp only [Act.put, List.getElem_toArray, List.getElem_cons_succ, List.getElem_cons_zero, List.setIfInBounds_toArray, List.set_cons_zero, List.set_cons_succ]
      refine wpAnyH_take (i := 3) (v := (.bool false)) rfl (by kernel_rfl) (by kernel_rfl) (by kernel_rfl) (fun _ _ _ h => h) (Or.inl ⟨by rfl, ?_⟩) (by assumption) ?_
      · intro w9 hSw
        try dsimp only at hSw
        go_simp
        all_goals try decide
        all_goals try assumption
        all_goals try omega
      try simp only [Act.put, List.getElem_toArray, List.getElem_cons_succ, List.getElem_cons_zero, List.setIfInBounds_toArray, List.set_cons_zero, List.set_cons_succ]
      refine wpAnyH_take (i := 4) (v := (.int .u8 d0)) rfl (by kernel_rfl) (by kernel_rfl) (by kernel_rfl) (fun _ _ _ h => h) (Or.inl ⟨by rfl, ?_⟩) (by assumption) ?_
      · intro w9 hSw
        try dsimp only at hSw
        go_simp
        all_goals try decide
        all_goals try assumption
        all_goals try omega
      try simp only [Act.put, List.getElem_toArray, List.getElem_cons_succ, List.getElem_cons_zero, List.setIfInBounds_toArray, List.set_cons_zero, List.set_cons_succ]
      refine wpAnyH_ready (rs := [5]) (by kernel_rfl) (by simp) ?_
      refine AllReadyH.cons rfl (fun K' hK => ?_) AllReadyH.nil
      rw [if_pos (by rfl)]
      simp only [List.getElem_toArray, List.getElem_cons_succ, List.getElem_cons_zero]
      have S0 := hHeld
      go_wp2_with fail
      refine (IS _).mono ?_
      rintro e w1 ⟨rfl, rfl⟩
      try go_wp2_with fail
      refine hK.out _ _ (S0) (fun hHeld => ?_)
      clear hK K'
      try simp only [Act.put, List.getElem_toArray, List.getElem_cons_succ, List.getElem_cons_zero, List.setIfInBounds_toArray, List.set_cons_zero, List.set_cons_succ]
      refine wpAnyH_take (i := 6) (v := (.bool true)) rfl (by kernel_rfl) (by kernel_rfl) (by kernel_rfl) (fun _ _ _ h => h) (Or.inl ⟨by rfl, ?_⟩) (by assumption) ?_
      · intro w9 hSw
        try dsimp only at hSw
        go_simp
        all_goals try decide
        all_goals try assumption
        all_goals try omega
      try simp only [Act.put, List.getElem_toArray, List.getElem_cons_succ, List.getElem_cons_zero, List.setIfInBounds_toArray, List.set_cons_zero, List.set_cons_succ]
      refine wpAnyH_take (i := 7) (v := (.bool true)) rfl (by kernel_rfl) (by kernel_rfl) (by kernel_rfl) (fun _ _ _ h => h) (Or.inl ⟨by rfl, ?_⟩) (by assumption) ?_
      · intro w9 hSw
        try dsimp only at hSw
        go_simp
        all_goals try decide
        all_goals try assumption
        all_goals try omega
      try simp only [Act.put, List.getElem_toArray, List.getElem_cons_succ, List.getElem_cons_zero, List.setIfInBounds_toArray, List.set_cons_zero, List.set_cons_succ]
      refine wpAnyH_take (i := 8) (v := (.bool true)) rfl (by kernel_rfl) (by kernel_rfl) (by kernel_rfl) (fun _ _ _ h => h) (Or.inl ⟨by rfl, ?_⟩) (by assumption) ?_
      · intro w9 hSw
        try dsimp only at hSw
        go_simp
        all_goals try decide
        all_goals try assumption
        all_goals try omega
      try simp only [Act.put, List.getElem_toArray, List.getElem_cons_succ, List.getElem_cons_zero, List.setIfInBounds_toArray, List.set_cons_zero, List.set_cons_succ]
      refine wpAnyH_take (i := 9) (v := undef) rfl (by kernel_rfl) (by kernel_rfl) (by kernel_rfl) (fun _ _ _ h => h) (Or.inr ⟨by rfl, rfl⟩) (by assumption) ?_
      try simp only [Act.put, List.getElem_toArray, List.getElem_cons_succ, List.getElem_cons_zero, List.setIfInBounds_toArray, List.set_cons_zero, List.set_cons_succ]
      refine wpAnyH_take (i := 10) (v := undef) rfl (by kernel_rfl) (by kernel_rfl) (by kernel_rfl) (fun _ _ _ h => h) (Or.inr ⟨by rfl, rfl⟩) (by assumption) ?_
      try simp only [Act.put, List.getElem_toArray, List.getElem_cons_succ, List.getElem_cons_zero, List.setIfInBounds_toArray, List.set_cons_zero, List.set_cons_succ]
      refine wpAnyH_take (i := 11) (v := undef) rfl (by kernel_rfl) (by kernel_rfl) (by kernel_rfl) (fun _ _ _ h => h) (Or.inr ⟨by rfl, rfl⟩) (by assumption) ?_
      try simp only [Act.put, List.getElem_toArray, List.getElem_cons_succ, List.getElem_cons_zero, List.setIfInBounds_toArray, List.set_cons_zero, List.set_cons_succ]
      refine wpAnyH_take (i := 12) (v := undef) rfl (by kernel_rfl) (by kernel_rfl) (by kernel_rfl) (fun _ _ _ h => h) (Or.inr ⟨by rfl, rfl⟩) (by assumption) ?_
      try simp only [Act.put, List.getElem_toArray, List.getElem_cons_succ, List.getElem_cons_zero, List.setIfInBounds_toArray, List.set_cons_zero, List.set_cons_succ]
      refine wpAnyH_take (i := 13) (v := undef) rfl (by kernel_rfl) (by kernel_rfl) (by kernel_rfl) (fun _ _ _ h => h) (Or.inr ⟨by rfl, rfl⟩) (by assumption) ?_
      try simp only [Act.put, List.getElem_toArray, List.getElem_cons_succ, List.getElem_cons_zero, List.setIfInBounds_toArray, List.set_cons_zero, List.set_cons_succ]
      refine wpAnyH_take (i := 14) (v := (.bool true)) rfl (by kernel_rfl) (by kernel_rfl) (by kernel_rfl) (fun _ _ _ h => h) (Or.inl ⟨by rfl, ?_⟩) (by assumption) ?_
      · intro w9 hSw
        try dsimp only at hSw
        go_simp
        all_goals try decide
        all_goals try assumption
        all_goals try omega
      try simp only [Act.put, List.getElem_toArray, List.getElem_cons_succ, List.getElem_cons_zero, List.setIfInBounds_toArray, List.set_cons_zero, List.set_cons_succ]
      refine wpAnyH_done (by kernel_rfl) ?_ _
      have y0 := hHeld
      clear hHeld
      go_wp2_with fail
      exact bodyPost_ret (v := .tuple #[.int .u8 0, .int .u8 0, .bool false]) (by simp [results, Try.results37, go_sem]) rfl ⟨by rw [E.out], Below.andThen HY.out y0⟩
    | true =>
      rw [hs] at IS
      cases hq : sameF i n d0 d1 d2 d3 d4 d5 d6 d7 r (1792 + a) 1 d0 0 0 0 0 0 0 0 false with
      | false =>
        have E := bad (.inr (.inr hq))
        rw [hq] at NQ
        clear bad good hn hs hq
        go_enter Try.func37, Try.ntmps37
        go_wp2_with fail
        have HF0 := at11 w (.cells (frC i n d0 d1 d2 d3 d4 d5 d6 d7 r) 37) w.heap.size rfl
        go_quiet (fail)
        go_wp2_with fail
        have HF : Hid (((w.alloc (.cells (frC i n d0 d1 d2 d3 d4 d5 d6 d7 r) 37)).drewN nq).heap[w.heap.size]? = some (.cells (frC i n d0 d1 d2 d3 d4 d5 d6 d7 r) 37 (0, 0))) := blk11 (below_drewN (Below.refl _ _) _) HF0
        have HY : Hid (Below w.heap.size w ((w.alloc (.cells (frC i n d0 d1 d2 d3 d4 d5 d6 d7 r) 37)).drewN nq)) := below_drewN (by repeat (first | exact Below.refl _ _ | apply Below.drew | apply Below.al)) _
        generalize hy : (((w.alloc (.cells (frC i n d0 d1 d2 d3 d4 d5 d6 d7 r) 37)).drewN nq) : World) = y at HF HY ⊢
        clear hy HF0
        refine wp_region_held_drew (S := fun x1 => Below y.heap.size y x1) (by kernel_rfl) (Below.drew (Below.refl _ _)) (fun hHeld => ?_)
        refine wpAnyH_take (i := 0) (v := (.int .u8 a)) rfl (by kernel_rfl) (by kernel_rfl) (by kernel_rfl) (fun _ _ _ h => h) (Or.inl ⟨by rfl, ?_⟩) (by assumption) ?_
        · intro w9 hSw
          try dsimp only at hSw
          go_simp
          all_goals try decide
          all_goals try assumption
          all_goals try omega
        try simp only [Act.put, List.getElem_toArray, List.getElem_cons_succ, List.getElem_cons_zero, List.setIfInBounds_toArray, List.set_cons_zero, List.set_cons_succ]
        refine wpAnyH_ready (rs := [1]) (by kernel_rfl) (by simp) ?_
        refine AllReadyH.cons rfl (fun K' hK => ?_) AllReadyH.nil
        rw [if_pos (by rfl)]
        simp only [List.getElem_toArray, List.getElem_cons_succ, List.getElem_cons_zero]
        have S0 := hHeld
        go_wp2_with fail
        refine (IN _).mono ?_
        rintro e w1 ⟨rfl, rfl⟩
        try go_wp2_with fail
        refine hK.out _ _ (S0) (fun hHeld => ?_)
        clear hK K'
        try simp only [Act.put, List.getElem_toArray, List.getElem_cons_succ, List.getElem_cons_zero, List.setIfInBounds_toArray, List.set_cons_zero, List.set_cons_succ]
        refine wpAnyH_take (i := 2) (v := (.bool false)) rfl (by kernel_rfl) (by kernel_rfl) (by kernel_rfl) (fun _ _ _ h => h) (Or.inl ⟨by rfl, ?_⟩) (by assumption) ?_
        · intro w9 hSw
          try dsimp only at hSw
          go_simp
          all_goals try decide
          all_goals try assumption
          all_goals try omega
        try simp only [Act.put, List.getElem_toArray, List.getElem_cons_succ, List.getElem_cons_zero, List.setIfInBounds_toArray, List.set_cons_zero, List.set_cons_succ]
        refine wpAnyH_take (i := 3) (v := (.bool false)) rfl (by kernel_rfl) (by kernel_rfl) (by kernel_rfl) (fun _ _ _ h => h) (Or.inl ⟨by rfl, ?_⟩) (by assumption) ?_
        · intro w9 hSw
          try dsimp only at hSw
          go_simp
          all_goals try decide
          all_goals try assumption
          all_goals try omega
        try simp only [Act.put, List.getElem_toArray, List.getElem_cons_succ, List.getElem_cons_zero, List.setIfInBounds_toArray, List.set_cons_zero, List.set_cons_succ]
        refine wpAnyH_take (i := 4) (v := (.int .u8 d0)) rfl (by kernel_rfl) (by kernel_rfl) (by kernel_rfl) (fun _ _ _ h => h) (Or.inl ⟨by rfl, ?_⟩) (by assumption) ?_
        · intro w9 hSw
          try dsimp only at hSw
          go_simp
          all_goals try decide
          all_goals try assumption
          all_goals try omega
        try simp only [Act.put, List.getElem_toArray, List.getElem_cons_succ, List.getElem_cons_zero, List.setIfInBounds_toArray, List.set_cons_zero, List.set_cons_succ]
        refine wpAnyH_ready (rs := [5]) (by kernel_rfl) (by simp) ?_
        refine AllReadyH.cons rfl (fun K' hK => ?_) AllReadyH.nil
        rw [if_pos (by rfl)]
        simp only [List.getElem_toArray, List.getElem_cons_succ, List.getElem_cons_zero]
        have S0 := hHeld
        go_wp2_with fail
        refine (IS _).mono ?_
        rintro e w1 ⟨rfl, rfl⟩
        try go_wp2_with fail
        refine hK.out _ _ (S0) (fun hHeld => ?_)
        clear hK K'
        try simp only [Act.put, List.getElem_toArray, List.getElem_cons_succ, List.getElem_cons_zero, List.setIfInBounds_toArray, List.set_cons_zero, List.set_cons_succ]
        refine wpAnyH_take (i := 6) (v := (.bool false)) rfl (by kernel_rfl) (by kernel_rfl) (by kernel_rfl) (fun _ _ _ h => h) (Or.inl ⟨by rfl, ?_⟩) (by assumption) ?_
        · intro w9 hSw
          try dsimp only at hSw
          go_simp
          all_goals try decide
          all_goals try assumption
          all_goals try omega
        try simp only [Act.put, List.getElem_toArray, List.getElem_cons_succ, List.getElem_cons_zero, List.setIfInBounds_toArray, List.set_cons_zero, List.set_cons_succ]
        refine wpAnyH_take (i := 7) (v := (.bool false)) rfl (by kernel_rfl) (by kernel_rfl) (by kernel_rfl) (fun _ _ _ h => h) (Or.inl ⟨by rfl, ?_⟩) (by assumption) ?_
        · intro w9 hSw
          try dsimp only at hSw
          go_simp
          all_goals try decide
          all_goals try assumption
          all_goals try omega
        try simp only [Act.put, List.getElem_toArray, List.getElem_cons_succ, List.getElem_cons_zero, List.setIfInBounds_toArray, List.set_cons_zero, List.set_cons_succ]
        refine wpAnyH_take (i := 8) (v := (.bool false)) rfl (by kernel_rfl) (by kernel_rfl) (by kernel_rfl) (fun _ _ _ h => h) (Or.inl ⟨by rfl, ?_⟩) (by assumption) ?_
        · intro w9 hSw
          try dsimp only at hSw
          go_simp
          all_goals try decide
          all_goals try assumption
          all_goals try omega
        try simp only [Act.put, List.getElem_toArray, List.getElem_cons_succ, List.getElem_cons_zero, List.setIfInBounds_toArray, List.set_cons_zero, List.set_cons_succ]
        refine wpAnyH_take (i := 9) (v := (frV i n d0 d1 d2 d3 d4 d5 d6 d7 r)) rfl (by kernel_rfl) (by kernel_rfl) (by kernel_rfl) (fun _ _ _ h => h) (Or.inl ⟨by rfl, ?_⟩) (by assumption) ?_
        · intro w9 hSw
          try dsimp only at hSw
          exact ex_load11 37 (.tmp 1) rfl _ _ rfl (loadF _ _ _ _ _ _ _ _ _ _ _ _ _ (blk11 hSw HF.out))
        try simp only [Act.put, List.getElem_toArray, List.getElem_cons_succ, List.getElem_cons_zero, List.setIfInBounds_toArray, List.set_cons_zero, List.set_cons_succ]
        refine wpAnyH_take (i := 10) (v := (.int .u8 a)) rfl (by kernel_rfl) (by kernel_rfl) (by kernel_rfl) (fun _ _ _ h => h) (Or.inl ⟨by rfl, ?_⟩) (by assumption) ?_
        · intro w9 hSw
          try dsimp only at hSw
          go_simp
          all_goals try decide
          all_goals try assumption
          all_goals try omega
        try simp only [Act.put, List.getElem_toArray, List.getElem_cons_succ, List.getElem_cons_zero, List.setIfInBounds_toArray, List.set_cons_zero, List.set_cons_succ]
        refine wpAnyH_take (i := 11) (v := (.int .u8 d0)) rfl (by kernel_rfl) (by kernel_rfl) (by kernel_rfl) (fun _ _ _ h => h) (Or.inl ⟨by rfl, ?_⟩) (by assumption) ?_
        · intro w9 hSw
          try dsimp only at hSw
          go_simp
          all_goals try decide
          all_goals try assumption
          all_goals try omega
        try simp only [Act.put, List.getElem_toArray, List.getElem_cons_succ, List.getElem_cons_zero, List.setIfInBounds_toArray, List.set_cons_zero, List.set_cons_succ]
        refine wpAnyH_ready (rs := [12]) (by kernel_rfl) (by simp) ?_
        refine AllReadyH.cons rfl (fun K' hK => ?_) AllReadyH.nil
        rw [if_pos (by rfl)]
        simp only [List.getElem_toArray, List.getElem_cons_succ, List.getElem_cons_zero]
        have S0 := hHeld
        go_wp2_with fail
        refine (BE.out _).mono ?_
        rintro e w1 ⟨rfl, hb⟩
        try go_wp2_with fail
        refine hK.out _ _ (Below.andThen S0 hb) (fun hHeld => ?_)
        clear hK K'
        try simp only [Act.put, List.getElem_toArray, List.getElem_cons_succ, List.getElem_cons_zero, List.setIfInBounds_toArray, List.set_cons_zero, List.set_cons_succ]
        clear hb
        refine wpAnyH_take (i := 13) (v := (.bool true)) rfl (by kernel_rfl) (by kernel_rfl) (by kernel_rfl) (fun _ _ _ h => h) (Or.inl ⟨by rfl, ?_⟩) (by assumption) ?_
        · intro w9 hSw
          try dsimp only at hSw
          have NQ9 := NQ w9
          go_simp
        try simp only [Act.put, List.getElem_toArray, List.getElem_cons_succ, List.getElem_cons_zero, List.setIfInBounds_toArray, List.set_cons_zero, List.set_cons_succ]
        refine wpAnyH_take (i := 14) (v := (.bool true)) rfl (by kernel_rfl) (by kernel_rfl) (by kernel_rfl) (fun _ _ _ h => h) (Or.inl ⟨by rfl, ?_⟩) (by assumption) ?_
        · intro w9 hSw
          try dsimp only at hSw
          go_simp
          all_goals try decide
          all_goals try assumption
          all_goals try omega
        try simp only [Act.put, List.getElem_toArray, List.getElem_cons_succ, List.getElem_cons_zero, List.setIfInBounds_toArray, List.set_cons_zero, List.set_cons_succ]
        refine wpAnyH_done (by kernel_rfl) ?_ _
        have y0 := hHeld
        clear hHeld
        go_wp2_with fail
        exact bodyPost_ret (v := .tuple #[.int .u8 0, .int .u8 0, .bool false]) (by simp [results, Try.results37, go_sem]) rfl ⟨by rw [E.out], Below.andThen HY.out y0⟩
      | true =>
        have E := good hn hs hq
        rw [hq] at NQ
        clear bad good hn hs hq
        go_enter Try.func37, Try.ntmps37
        go_wp2_with fail
        have HF0 := at11 w (.cells (frC i n d0 d1 d2 d3 d4 d5 d6 d7 r) 37) w.heap.size rfl
        go_quiet (fail)
        go_wp2_with fail
        have HF : Hid (((w.alloc (.cells (frC i n d0 d1 d2 d3 d4 d5 d6 d7 r) 37)).drewN nq).heap[w.heap.size]? = some (.cells (frC i n d0 d1 d2 d3 d4 d5 d6 d7 r) 37 (0, 0))) := blk11 (below_drewN (Below.refl _ _) _) HF0
        have HY : Hid (Below w.heap.size w ((w.alloc (.cells (frC i n d0 d1 d2 d3 d4 d5 d6 d7 r) 37)).drewN nq)) := below_drewN (by repeat (first | exact Below.refl _ _ | apply Below.drew | apply Below.al)) _
        generalize hy : (((w.alloc (.cells (frC i n d0 d1 d2 d3 d4 d5 d6 d7 r) 37)).drewN nq) : World) = y at HF HY ⊢
        clear hy HF0
        refine wp_region_held_drew (S := fun x1 => Below y.heap.size y x1) (by kernel_rfl) (Below.drew (Below.refl _ _)) (fun hHeld => ?_)
        refine wpAnyH_take (i := 0) (v := (.int .u8 a)) rfl (by kernel_rfl) (by kernel_rfl) (by kernel_rfl) (fun _ _ _ h => h) (Or.inl ⟨by rfl, ?_⟩) (by assumption) ?_
        · intro w9 hSw
          try dsimp only at hSw
          go_simp
          all_goals try decide
          all_goals try assumption
          all_goals try omega
        try simp only [Act.put, List.getElem_toArray, List.getElem_cons_succ, List.getElem_cons_zero, List.setIfInBounds_toArray, List.set_cons_zero, List.set_cons_succ]
        refine wpAnyH_ready (rs := [1]) (by kernel_rfl) (by simp) ?_
        refine AllReadyH.cons rfl (fun K' hK => ?_) AllReadyH.nil
        rw [if_pos (by rfl)]
        simp only [List.getElem_toArray, List.getElem_cons_succ, List.getElem_cons_zero]
        have S0 := hHeld
        go_wp2_with fail
        refine (IN _).mono ?_
        rintro e w1 ⟨rfl, rfl⟩
        try go_wp2_with fail
        refine hK.out _ _ (S0) (fun hHeld => ?_)
        clear hK K'
        try simp only [Act.put, List.getElem_toArray, List.getElem_cons_succ, List.getElem_cons_zero, List.setIfInBounds_toArray, List.set_cons_zero, List.set_cons_succ]
        refine wpAnyH_take (i := 2) (v := (.bool false)) rfl (by kernel_rfl) (by kernel_rfl) (by kernel_rfl) (fun _ _ _ h => h) (Or.inl ⟨by rfl, ?_⟩) (by assumption) ?_
        · intro w9 hSw
          try dsimp only at hSw
          go_simp
          all_goals try decide
          all_goals try assumption
          all_goals try omega
        try simp only [Act.put, List.getElem_toArray, List.getElem_cons_succ, List.getElem_cons_zero, List.setIfInBounds_toArray, List.set_cons_zero, List.set_cons_succ]
        refine wpAnyH_take (i := 3) (v := (.bool false)) rfl (by kernel_rfl) (by kernel_rfl) (by kernel_rfl) (fun _ _ _ h => h) (Or.inl ⟨by rfl, ?_⟩) (by assumption) ?_
        · intro w9 hSw
          try dsimp only at hSw
          go_simp
          all_goals try decide
          all_goals try assumption
          all_goals try omega
        try simp only [Act.put, List.getElem_toArray, List.getElem_cons_succ, List.getElem_cons_zero, List.setIfInBounds_toArray, List.set_cons_zero, List.set_cons_succ]
        refine wpAnyH_take (i := 4) (v := (.int .u8 d0)) rfl (by kernel_rfl) (by kernel_rfl) (by kernel_rfl) (fun _ _ _ h => h) (Or.inl ⟨by rfl, ?_⟩) (by assumption) ?_
        · intro w9 hSw
          try dsimp only at hSw
          go_simp
          all_goals try decide
          all_goals try assumption
          all_goals try omega
        try simp only [Act.put, List.getElem_toArray, List.getElem_cons_succ, List.getElem_cons_zero, List.setIfInBounds_toArray, List.set_cons_zero, List.set_cons_succ]
        refine wpAnyH_ready (rs := [5]) (by kernel_rfl) (by simp) ?_
        refine AllReadyH.cons rfl (fun K' hK => ?_) AllReadyH.nil
        rw [if_pos (by rfl)]
        simp only [List.getElem_toArray, List.getElem_cons_succ, List.getElem_cons_zero]
        have S0 := hHeld
        go_wp2_with fail
        refine (IS _).mono ?_
        rintro e w1 ⟨rfl, rfl⟩
        try go_wp2_with fail
        refine hK.out _ _ (S0) (fun hHeld => ?_)
        clear hK K'
        try simp only [Act.put, List.getElem_toArray, List.getElem_cons_succ, List.getElem_cons_zero, List.setIfInBounds_toArray, List.set_cons_zero, List.set_cons_succ]
        refine wpAnyH_take (i := 6) (v := (.bool false)) rfl (by kernel_rfl) (by kernel_rfl) (by kernel_rfl) (fun _ _ _ h => h) (Or.inl ⟨by rfl, ?_⟩) (by assumption) ?_
        · intro w9 hSw
          try dsimp only at hSw
          go_simp
          all_goals try decide
          all_goals try assumption
          all_goals try omega
        try simp only [Act.put, List.getElem_toArray, List.getElem_cons_succ, List.getElem_cons_zero, List.setIfInBounds_toArray, List.set_cons_zero, List.set_cons_succ]
        refine wpAnyH_take (i := 7) (v := (.bool false)) rfl (by kernel_rfl) (by kernel_rfl) (by kernel_rfl) (fun _ _ _ h => h) (Or.inl ⟨by rfl, ?_⟩) (by assumption) ?_
        · intro w9 hSw
          try dsimp only at hSw
          go_simp
          all_goals try decide
          all_goals try assumption
          all_goals try omega
        try simp only [Act.put, List.getElem_toArray, List.getElem_cons_succ, List.getElem_cons_zero, List.setIfInBounds_toArray, List.set_cons_zero, List.set_cons_succ]
        refine wpAnyH_take (i := 8) (v := (.bool false)) rfl (by kernel_rfl) (by kernel_rfl) (by kernel_rfl) (fun _ _ _ h => h) (Or.inl ⟨by rfl, ?_⟩) (by assumption) ?_
        · intro w9 hSw
          try dsimp only at hSw
          go_simp
          all_goals try decide
          all_goals try assumption
          all_goals try omega
        try simp only [Act.put, List.getElem_toArray, List.getElem_cons_succ, List.getElem_cons_zero, List.setIfInBounds_toArray, List.set_cons_zero, List.set_cons_succ]
        refine wpAnyH_take (i := 9) (v := (frV i n d0 d1 d2 d3 d4 d5 d6 d7 r)) rfl (by kernel_rfl) (by kernel_rfl) (by kernel_rfl) (fun _ _ _ h => h) (Or.inl ⟨by rfl, ?_⟩) (by assumption) ?_
        · intro w9 hSw
          try dsimp only at hSw
          exact ex_load11 37 (.tmp 1) rfl _ _ rfl (loadF _ _ _ _ _ _ _ _ _ _ _ _ _ (blk11 hSw HF.out))
        try simp only [Act.put, List.getElem_toArray, List.getElem_cons_succ, List.getElem_cons_zero, List.setIfInBounds_toArray, List.set_cons_zero, List.set_cons_succ]
        refine wpAnyH_take (i := 10) (v := (.int .u8 a)) rfl (by kernel_rfl) (by kernel_rfl) (by kernel_rfl) (fun _ _ _ h => h) (Or.inl ⟨by rfl, ?_⟩) (by assumption) ?_
        · intro w9 hSw
          try dsimp only at hSw
          go_simp
          all_goals try decide
          all_goals try assumption
          all_goals try omega
        try simp only [Act.put, List.getElem_toArray, List.getElem_cons_succ, List.getElem_cons_zero, List.setIfInBounds_toArray, List.set_cons_zero, List.set_cons_succ]
        refine wpAnyH_take (i := 11) (v := (.int .u8 d0)) rfl (by kernel_rfl) (by kernel_rfl) (by kernel_rfl) (fun _ _ _ h => h) (Or.inl ⟨by rfl, ?_⟩) (by assumption) ?_
        · intro w9 hSw
          try dsimp only at hSw
          go_simp
          all_goals try decide
          all_goals try assumption
          all_goals try omega
        try simp only [Act.put, List.getElem_toArray, List.getElem_cons_succ, List.getElem_cons_zero, List.setIfInBounds_toArray, List.set_cons_zero, List.set_cons_succ]
        refine wpAnyH_ready (rs := [12]) (by kernel_rfl) (by simp) ?_
        refine AllReadyH.cons rfl (fun K' hK => ?_) AllReadyH.nil
        rw [if_pos (by rfl)]
        simp only [List.getElem_toArray, List.getElem_cons_succ, List.getElem_cons_zero]
        have S0 := hHeld
        go_wp2_with fail
        refine (BE.out _).mono ?_
        rintro e w1 ⟨rfl, hb⟩
        try go_wp2_with fail
        refine hK.out _ _ (Below.andThen S0 hb) (fun hHeld => ?_)
        clear hK K'
        try simp only [Act.put, List.getElem_toArray, List.getElem_cons_succ, List.getElem_cons_zero, List.setIfInBounds_toArray, List.set_cons_zero, List.set_cons_succ]
        clear hb
        refine wpAnyH_take (i := 13) (v := (.bool false)) rfl (by kernel_rfl) (by kernel_rfl) (by kernel_rfl) (fun _ _ _ h => h) (Or.inl ⟨by rfl, ?_⟩) (by assumption) ?_
        · intro w9 hSw
          try dsimp only at hSw
          have NQ9 := NQ w9
          go_simp
        try simp only [Act.put, List.getElem_toArray, List.getElem_cons_succ, List.getElem_cons_zero, List.setIfInBounds_toArray, List.set_cons_zero, List.set_cons_succ]
        refine wpAnyH_take (i := 14) (v := (.bool false)) rfl (by kernel_rfl) (by kernel_rfl) (by kernel_rfl) (fun _ _ _ h => h) (Or.inl ⟨by rfl, ?_⟩) (by assumption) ?_
        · intro w9 hSw
          try dsimp only at hSw
          go_simp
          all_goals try decide
          all_goals try assumption
          all_goals try omega
        try simp only [Act.put, List.getElem_toArray, List.getElem_cons_succ, List.getElem_cons_zero, List.setIfInBounds_toArray, List.set_cons_zero, List.set_cons_succ]
        refine wpAnyH_done (by kernel_rfl) ?_ _
        have y0 := hHeld
        clear hHeld
        go_wp2_with fail
        exact bodyPost_ret (v := .tuple #[.int .u8 a, .int .u8 d0, .bool true]) (by simp [results, Try.results37, go_sem]) rfl ⟨by rw [E.out], Below.andThen HY.out y0⟩
#print axioms beaten_any
end Go.Proofs.Ytjdfacjfpdfafaa
