/-
  The walks of Send, Next and Waits at few that wait.
-/
import Derived.Test.YtndlpjfofjikeaaBh4
namespace Go.Proofs.Ytndlpjfofjikeaa
open Go.RowKit

set_option linter.unusedSimpArgs false in
set_option maxHeartbeats 4000000 in
set_option maxRecDepth 100000 in
theorem add_of {base p : Nat} {l l' : List Sn} {y : Sn} {ct : Int} (hp : ∀ (z : World) (v : Value), IsB z base p v l ct → base ≤ z.heap.size → Calls Try.prog 36 #[.iface 69 (.pointer (some ⟨p, 0, none⟩)), .iface 42 (.agg y.A)] z fun e w' => e = .returned (.tuple #[]) ∧ (∃ v', IsB w' base p v' l' ct) ∧ Ko p base z w')
    {w : World} {v : Value} (h : IsB w base p v l ct) (hb : base ≤ w.heap.size) : Calls Try.prog 27 #[.pointer (some ⟨p, 0, none⟩), .agg y.A] w fun e w' => e = .returned (.tuple #[]) ∧ (∃ v', IsB w' base p v' l' ct) ∧ Ko p base w w' := by
  have HC := hp (w.alloc (.cells y.A 42)) v (h.next (Below.al (Below.refl _ _) _)) (by simp; omega)
  clear h hp
  go_enter Try.func27, Try.ntmps27
  go_wp2_with fail
  refine HC.mono ?_
  rintro e z ⟨rfl, Hz, kz⟩
  have RES : Hid _ := Hz
  clear Hz
  go_wp2_with fail
  go_end0
  exact ⟨rfl, RES.out, (Ko.of (Below.al (Below.refl _ _) _)).trans kz⟩
#print axioms add_of

theorem sizeF : (Try.prog.info? 27).map (·.size) = some 11 := by kernel_rfl

set_option linter.unusedSimpArgs false in
set_option maxHeartbeats 4000000 in
set_option maxRecDepth 100000 in
theorem send_of {base p : Nat} {l l' : List Sn} {y : Sn} (hp : ∀ (z : World) (v : Value), IsB z base p v l y.nm → base ≤ z.heap.size → Calls Try.prog 36 #[.iface 69 (.pointer (some ⟨p, 0, none⟩)), .iface 42 (.agg y.A)] z fun e w' => e = .returned (.tuple #[]) ∧ (∃ v', IsB w' base p v' l' y.nm) ∧ Ko p base z w')
    {w : World} {v : Value} (h : IsB w base p v l y.nm) (hb : base ≤ w.heap.size) (hn : ¬ y.nd < 0) (ho : Oct [y.d0, y.d1, y.d2, y.d3, y.d4, y.d5, y.d6, y.d7]) (hr : rightB y.i y.n [y.d0, y.d1, y.d2, y.d3, y.d4, y.d5, y.d6, y.d7] y.r = true) (hl : l.length < 512) (hc0 : 0 ≤ y.nm) (hc : y.nm < 1000000) :
    Calls Try.prog 15 #[.pointer (some ⟨p, 0, none⟩), .int .i64 y.nd, .agg #[.int .u16 y.i, .int .i64 y.n, .int .u8 y.d0, .int .u8 y.d1, .int .u8 y.d2, .int .u8 y.d3, .int .u8 y.d4, .int .u8 y.d5, .int .u8 y.d6, .int .u8 y.d7, .bool y.r]] w fun e w' => e = .returned (.int .i64 0) ∧ (∃ v', IsB w' base p v' l' (y.nm + 1)) ∧ Ko p base w w' := by
  have RI := fun w => right_any y.i y.n y.d0 y.d1 y.d2 y.d3 y.d4 y.d5 y.d6 y.d7 y.r w ho
  rw [hr] at RI
  have hx : Below w.heap.size w (w.alloc (.cells #[.int .u16 y.i, .int .i64 y.n, .int .u8 y.d0, .int .u8 y.d1, .int .u8 y.d2, .int .u8 y.d3, .int .u8 y.d4, .int .u8 y.d5, .int .u8 y.d6, .int .u8 y.d7, .bool y.r] 27)) := Below.al (Below.refl _ _) _
  have WW : IntKind.i64.wrap (y.nm + 1) = y.nm + 1 := by rw [IntKind.wrap_i64]; omega
  have HN : Hid (∀ z, Below w.heap.size w z → IsB z base p v l y.nm) := fun z hz => h.next hz
  have AD0 : Hid (∀ z, Below w.heap.size w z → base ≤ z.heap.size → Calls Try.prog 27 #[.pointer (some ⟨p, 0, none⟩), .agg y.A] z fun e w' => e = .returned (.tuple #[]) ∧ (∃ v', IsB w' base p v' l' y.nm) ∧ Ko p base z w') := fun z hz hbz => add_of hp (h.next hz) hbz
  obtain ⟨a, hv⟩ : ∃ a : Option Addr × Nat, v = .slice a.1 l.length a.2 := by
    rcases h.own.form with ⟨h1, h2⟩ | ⟨g, cap, _, h1, _⟩
    · subst h2; exact ⟨(none, 0), h1⟩
    · exact ⟨(some ⟨g, 0, none⟩, cap), h1⟩
  obtain ⟨a1, c1⟩ := a
  dsimp only at hv
  subst hv
  have hlg : ¬ (512 : Int) ≤ (l.length : Int) := by omega
  clear h hp hr ho hl
  go_enter Try.func15, Try.ntmps15
  go_wp2_with fail
  refine (RI _).mono ?_
  rintro e z0 ⟨rfl, bz0⟩
  have B0 : Below w.heap.size w z0 := Below.andThen hx bz0
  have kz0 : Kp [] _ z0 := Kp.of bz0
  have H0 := HN.out z0 B0
  have k0 := H0.c0
  have k1 := H0.c1
  have L1 := run_loadVar_row (P := Try.prog) z0.drew w.heap.size 27 27 #[.int .u16 y.i, .int .i64 y.n, .int .u8 y.d0, .int .u8 y.d1, .int .u8 y.d2, .int .u8 y.d3, .int .u8 y.d4, .int .u8 y.d5, .int .u8 y.d6, .int .u8 y.d7, .bool y.r] (0, 0) _ ((bz0.block w.heap.size (by simp)).trans (heap_alloc_last w _)) Try.underlying27 rfl sizeF
  have L2 : (loadVar 2 ⟨p, 1, none⟩).run Try.prog z0.drew = .ok (.int .i64 y.nm) z0.drew := by
    have := H0.c1
    simp [go_sem, this]
  have HL := len_any a1 l.length c1 z0
  have BD : Below w.heap.size w z0.drew := Below.drew B0
  have AD := AD0.out z0.drew BD (by have := B0.size; show base ≤ z0.heap.size; omega)
  have KA : Hid (Ko p base w z0.drew) := Ko.of BD
  clear H0 HN AD0 bz0 kz0 B0 BD hx RI
  go_wp2_with fail
  refine HL.mono ?_
  rintro e z0 ⟨rfl, rfl⟩
  clear HL
  go_wp2_with fail
  refine wp_region_held_drew (S := fun _ => True) (by kernel_rfl) trivial (fun hHeld => ?_)
  refine wpAnyH_take (i := 0) (v := (.pointer (some ⟨p, 0, none⟩))) rfl (by kernel_rfl) (by kernel_rfl) (by kernel_rfl) (fun _ _ _ h => h) (Or.inl ⟨by rfl, ?_⟩) (by assumption) ?_
  · intro w9 hSw
    try dsimp only at hSw
    go_simp
    all_goals try decide
    all_goals try assumption
  try simp only [Act.put, List.getElem_toArray, List.getElem_cons_succ, List.getElem_cons_zero, List.setIfInBounds_toArray, List.set_cons_zero, List.set_cons_succ]
  refine wpAnyH_take (i := 1) (v := (.pointer (some ⟨p, 0, none⟩))) rfl (by kernel_rfl) (by kernel_rfl) (by kernel_rfl) (fun _ _ _ h => h) (Or.inl ⟨by rfl, ?_⟩) (by assumption) ?_
  · intro w9 hSw
    try dsimp only at hSw
    go_simp
    all_goals try decide
    all_goals try assumption
  try simp only [Act.put, List.getElem_toArray, List.getElem_cons_succ, List.getElem_cons_zero, List.setIfInBounds_toArray, List.set_cons_zero, List.set_cons_succ]
  refine wpAnyH_take (i := 2) (v := (.pointer (some ⟨p, 0, none⟩))) rfl (by kernel_rfl) (by kernel_rfl) (by kernel_rfl) (fun _ _ _ h => h) (Or.inl ⟨by rfl, ?_⟩) (by assumption) ?_
  · intro w9 hSw
    try dsimp only at hSw
    go_simp
    all_goals try decide
    all_goals try assumption
  try simp only [Act.put, List.getElem_toArray, List.getElem_cons_succ, List.getElem_cons_zero, List.setIfInBounds_toArray, List.set_cons_zero, List.set_cons_succ]
  refine wpAnyH_take (i := 3) (v := (.int .i64 y.nd)) rfl (by kernel_rfl) (by kernel_rfl) (by kernel_rfl) (fun _ _ _ h => h) (Or.inl ⟨by rfl, ?_⟩) (by assumption) ?_
  · intro w9 hSw
    try dsimp only at hSw
    go_simp
    all_goals try decide
    all_goals try assumption
  try simp only [Act.put, List.getElem_toArray, List.getElem_cons_succ, List.getElem_cons_zero, List.setIfInBounds_toArray, List.set_cons_zero, List.set_cons_succ]
  refine wpAnyH_take (i := 5) (v := (.pointer (some ⟨p, 0, none⟩))) rfl (by kernel_rfl) (by kernel_rfl) (by kernel_rfl) (fun _ _ _ h => h) (Or.inl ⟨by rfl, ?_⟩) (by assumption) ?_
  · intro w9 hSw
    try dsimp only at hSw
    go_simp
    all_goals try decide
    all_goals try assumption
  try simp only [Act.put, List.getElem_toArray, List.getElem_cons_succ, List.getElem_cons_zero, List.setIfInBounds_toArray, List.set_cons_zero, List.set_cons_succ]
  refine wpAnyH_take (i := 6) (v := (.pointer (some ⟨p, 0, none⟩))) rfl (by kernel_rfl) (by kernel_rfl) (by kernel_rfl) (fun _ _ _ h => h) (Or.inl ⟨by rfl, ?_⟩) (by assumption) ?_
  · intro w9 hSw
    try dsimp only at hSw
    go_simp
    all_goals try decide
    all_goals try assumption
  try simp only [Act.put, List.getElem_toArray, List.getElem_cons_succ, List.getElem_cons_zero, List.setIfInBounds_toArray, List.set_cons_zero, List.set_cons_succ]
  refine wpAnyH_take (i := 7) (v := (.pointer (some ⟨p, 1, none⟩))) rfl (by kernel_rfl) (by kernel_rfl) (by kernel_rfl) (fun _ _ _ h => h) (Or.inl ⟨by rfl, ?_⟩) (by assumption) ?_
  · intro w9 hSw
    try dsimp only at hSw
    go_simp
    all_goals try decide
    all_goals try assumption
  try simp only [Act.put, List.getElem_toArray, List.getElem_cons_succ, List.getElem_cons_zero, List.setIfInBounds_toArray, List.set_cons_zero, List.set_cons_succ]
  refine wpAnyH_ready (rs := [4, 8]) (by kernel_rfl) (by simp) ?_
  refine AllReadyH.cons rfl (fun K' hK => ?_) (AllReadyH.cons rfl (fun K' hK => ?_) AllReadyH.nil)
  · rw [if_pos (by rfl)]
    simp only [List.getElem_toArray, List.getElem_cons_succ, List.getElem_cons_zero]
    refine wp_load_by 27 (.tmp 5) rfl _ _ rfl L1 ?_
    refine hK.out _ _ trivial (fun hHeld => ?_)
    clear hK K'
    try simp only [Act.put, List.getElem_toArray, List.getElem_cons_succ, List.getElem_cons_zero, List.setIfInBounds_toArray, List.set_cons_zero, List.set_cons_succ]
    refine wpAnyH_ready (rs := [8]) (by kernel_rfl) (by simp) ?_
    refine AllReadyH.cons rfl (fun K' hK => ?_) AllReadyH.nil
    rw [if_pos (by rfl)]
    simp only [List.getElem_toArray, List.getElem_cons_succ, List.getElem_cons_zero]
    refine wp_load_by 2 (.tmp 32) rfl _ _ rfl L2 ?_
    refine hK.out _ _ trivial (fun hHeld => ?_)
    clear hK K'
    try simp only [Act.put, List.getElem_toArray, List.getElem_cons_succ, List.getElem_cons_zero, List.setIfInBounds_toArray, List.set_cons_zero, List.set_cons_succ]
    refine wpAnyH_take (i := 9) (v := (.agg y.A)) rfl (by kernel_rfl) (by kernel_rfl) (by kernel_rfl) (fun _ _ _ h => h) (Or.inl ⟨by rfl, ?_⟩) (by assumption) ?_
    · intro w9 hSw
      try dsimp only at hSw
      go_simp
      all_goals try decide
      all_goals try assumption
    try simp only [Act.put, List.getElem_toArray, List.getElem_cons_succ, List.getElem_cons_zero, List.setIfInBounds_toArray, List.set_cons_zero, List.set_cons_succ]
    refine wpAnyH_ready (rs := [10]) (by kernel_rfl) (by simp) ?_
    refine AllReadyH.cons rfl (fun K' hK => ?_) AllReadyH.nil
    rw [if_pos (by rfl)]
    simp only [List.getElem_toArray, List.getElem_cons_succ, List.getElem_cons_zero]
    go_wp2_with fail
    refine AD.mono ?_
    rintro e z ⟨rfl, ⟨v2, Hz⟩, kz⟩
    try go_wp2_with fail
    refine hK.out _ _ trivial (fun hHeld => ?_)
    clear hK K'
    try simp only [Act.put, List.getElem_toArray, List.getElem_cons_succ, List.getElem_cons_zero, List.setIfInBounds_toArray, List.set_cons_zero, List.set_cons_succ]
    refine wpAnyH_done (by kernel_rfl) ?_ _
    have k1 := Hz.c1
    have f1 := Hz.fz 1
    have RES : Hid (IsB (z.setCell ⟨p, 1, none⟩ (.int .i64 (y.nm + 1))) base p v2 l' (y.nm + 1) ∧ Ko p base w (z.setCell ⟨p, 1, none⟩ (.int .i64 (y.nm + 1)))) := ⟨Hz.set1 _, (KA.out.trans kz).set _ _⟩
    clear Hz kz
    go_wp2_with fail
    go_ret
    exact ⟨rfl, ⟨_, RES.out.1⟩, RES.out.2⟩
  · rw [if_pos (by rfl)]
    simp only [List.getElem_toArray, List.getElem_cons_succ, List.getElem_cons_zero]
    refine wp_load_by 2 (.tmp 32) rfl _ _ rfl L2 ?_
    refine hK.out _ _ trivial (fun hHeld => ?_)
    clear hK K'
    try simp only [Act.put, List.getElem_toArray, List.getElem_cons_succ, List.getElem_cons_zero, List.setIfInBounds_toArray, List.set_cons_zero, List.set_cons_succ]
    refine wpAnyH_ready (rs := [4]) (by kernel_rfl) (by simp) ?_
    refine AllReadyH.cons rfl (fun K' hK => ?_) AllReadyH.nil
    rw [if_pos (by rfl)]
    simp only [List.getElem_toArray, List.getElem_cons_succ, List.getElem_cons_zero]
    refine wp_load_by 27 (.tmp 5) rfl _ _ rfl L1 ?_
    refine hK.out _ _ trivial (fun hHeld => ?_)
    clear hK K'
    try simp only [Act.put, List.getElem_toArray, List.getElem_cons_succ, List.getElem_cons_zero, List.setIfInBounds_toArray, List.set_cons_zero, List.set_cons_succ]
    refine wpAnyH_take (i := 9) (v := (.agg y.A)) rfl (by kernel_rfl) (by kernel_rfl) (by kernel_rfl) (fun _ _ _ h => h) (Or.inl ⟨by rfl, ?_⟩) (by assumption) ?_
    · intro w9 hSw
      try dsimp only at hSw
      go_simp
      all_goals try decide
      all_goals try assumption
    try simp only [Act.put, List.getElem_toArray, List.getElem_cons_succ, List.getElem_cons_zero, List.setIfInBounds_toArray, List.set_cons_zero, List.set_cons_succ]
    refine wpAnyH_ready (rs := [10]) (by kernel_rfl) (by simp) ?_
    refine AllReadyH.cons rfl (fun K' hK => ?_) AllReadyH.nil
    rw [if_pos (by rfl)]
    simp only [List.getElem_toArray, List.getElem_cons_succ, List.getElem_cons_zero]
    go_wp2_with fail
    refine AD.mono ?_
    rintro e z ⟨rfl, ⟨v2, Hz⟩, kz⟩
    try go_wp2_with fail
    refine hK.out _ _ trivial (fun hHeld => ?_)
    clear hK K'
    try simp only [Act.put, List.getElem_toArray, List.getElem_cons_succ, List.getElem_cons_zero, List.setIfInBounds_toArray, List.set_cons_zero, List.set_cons_succ]
    refine wpAnyH_done (by kernel_rfl) ?_ _
    have k1 := Hz.c1
    have f1 := Hz.fz 1
    have RES : Hid (IsB (z.setCell ⟨p, 1, none⟩ (.int .i64 (y.nm + 1))) base p v2 l' (y.nm + 1) ∧ Ko p base w (z.setCell ⟨p, 1, none⟩ (.int .i64 (y.nm + 1)))) := ⟨Hz.set1 _, (KA.out.trans kz).set _ _⟩
    clear Hz kz
    go_wp2_with fail
    go_ret
    exact ⟨rfl, ⟨_, RES.out.1⟩, RES.out.2⟩
#print axioms send_of
end Go.Proofs.Ytndlpjfofjikeaa
