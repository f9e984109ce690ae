/-
  The walk of Send at any number that wait.
-/
import Derived.Test.YtndlpjfofjikeaaBd4
import Derived.Test.YtndlpjfofjikeaaBs4
import Derived.Test.YtndlpjfofjikeaaBt4
namespace Go.Proofs.Ytndlpjfofjikeaa
open Go.RowKit

set_option linter.unusedSimpArgs false in
set_option maxHeartbeats 4000000 in
set_option maxRecDepth 100000 in
theorem add_ofR {base p : Nat} {l : List Sn} {R : List Sn → Prop} {y : Sn} {ct : Int} (hp : ∀ (z : World) (v : Value), IsB z base p v l ct → base ≤ z.heap.size → Calls Try.prog 36 #[.iface 69 (.pointer (some ⟨p, 0, none⟩)), .iface 42 (.agg y.A)] z fun e w' => e = .returned (.tuple #[]) ∧ (∃ v' l', R l' ∧ IsB w' base p v' l' ct) ∧ Ko p base z w')
    {w : World} {v : Value} (h : IsB w base p v l ct) (hb : base ≤ w.heap.size) : Calls Try.prog 27 #[.pointer (some ⟨p, 0, none⟩), .agg y.A] w fun e w' => e = .returned (.tuple #[]) ∧ (∃ v' l', R l' ∧ IsB w' base p v' l' ct) ∧ Ko p base w w' := by
  have HC := hp (w.alloc (.cells y.A 42)) v (h.next (Below.al (Below.refl _ _) _)) (by simp; omega)
  clear h hp
  go_enter Try.func27, Try.ntmps27
  go_wp2_with fail
  refine HC.mono ?_
  rintro e z ⟨rfl, Hz, kz⟩
  have RES : Hid _ := Hz
  clear Hz
  go_wp2_with fail
  go_end0
  exact ⟨rfl, RES.out, (Ko.of (Below.al (Below.refl _ _) _)).trans kz⟩


set_option linter.unusedSimpArgs false in
set_option maxHeartbeats 4000000 in
set_option maxRecDepth 100000 in
theorem send_ofR {base p : Nat} {l : List Sn} {R : List Sn → Prop} {y : Sn} (hp : ∀ (z : World) (v : Value), IsB z base p v l y.nm → base ≤ z.heap.size → Calls Try.prog 36 #[.iface 69 (.pointer (some ⟨p, 0, none⟩)), .iface 42 (.agg y.A)] z fun e w' => e = .returned (.tuple #[]) ∧ (∃ v' l', R l' ∧ IsB w' base p v' l' y.nm) ∧ Ko p base z w')
    {w : World} {v : Value} (h : IsB w base p v l y.nm) (hb : base ≤ w.heap.size) (hn : ¬ y.nd < 0) (ho : Oct [y.d0, y.d1, y.d2, y.d3, y.d4, y.d5, y.d6, y.d7]) (hr : rightB y.i y.n [y.d0, y.d1, y.d2, y.d3, y.d4, y.d5, y.d6, y.d7] y.r = true) (hl : l.length < 512) (hc0 : 0 ≤ y.nm) (hc : y.nm < 1000000) :
    Calls Try.prog 15 #[.pointer (some ⟨p, 0, none⟩), .int .i64 y.nd, .agg #[.int .u16 y.i, .int .i64 y.n, .int .u8 y.d0, .int .u8 y.d1, .int .u8 y.d2, .int .u8 y.d3, .int .u8 y.d4, .int .u8 y.d5, .int .u8 y.d6, .int .u8 y.d7, .bool y.r]] w fun e w' => e = .returned (.int .i64 0) ∧ (∃ v' l', R l' ∧ IsB w' base p v' l' (y.nm + 1)) ∧ Ko p base w w' := by
  have RI := fun w => right_any y.i y.n y.d0 y.d1 y.d2 y.d3 y.d4 y.d5 y.d6 y.d7 y.r w ho
  rw [hr] at RI
  have hx : Below w.heap.size w (w.alloc (.cells #[.int .u16 y.i, .int .i64 y.n, .int .u8 y.d0, .int .u8 y.d1, .int .u8 y.d2, .int .u8 y.d3, .int .u8 y.d4, .int .u8 y.d5, .int .u8 y.d6, .int .u8 y.d7, .bool y.r] 27)) := Below.al (Below.refl _ _) _
  have WW : IntKind.i64.wrap (y.nm + 1) = y.nm + 1 := by rw [IntKind.wrap_i64]; omega
  have HN : Hid (∀ z, Below w.heap.size w z → IsB z base p v l y.nm) := fun z hz => h.next hz
  have AD0 : Hid (∀ z, Below w.heap.size w z → base ≤ z.heap.size → Calls Try.prog 27 #[.pointer (some ⟨p, 0, none⟩), .agg y.A] z fun e w' => e = .returned (.tuple #[]) ∧ (∃ v' l', R l' ∧ IsB w' base p v' l' y.nm) ∧ Ko p base z w') := fun z hz hbz => add_ofR hp (h.next hz) hbz
  obtain ⟨a, hv⟩ : ∃ a : Option Addr × Nat, v = .slice a.1 l.length a.2 := by
    rcases h.own.form with ⟨h1, h2⟩ | ⟨g, cap, _, h1, _⟩
    · subst h2; exact ⟨(none, 0), h1⟩
    · exact ⟨(some ⟨g, 0, none⟩, cap), h1⟩
  obtain ⟨a1, c1⟩ := a
  dsimp only at hv
  subst hv
  have hlg : ¬ (512 : Int) ≤ (l.length : Int) := by omega
  clear h hp hr ho hl
  go_enter Try.func15, Try.ntmps15
  go_wp2_with fail
  refine (RI _).mono ?_
  rintro e z0 ⟨rfl, bz0⟩
  have B0 : Below w.heap.size w z0 := Below.andThen hx bz0
  have kz0 : Kp [] _ z0 := Kp.of bz0
  have H0 := HN.out z0 B0
  have k0 := H0.c0
  have k1 := H0.c1
  have L1 := run_loadVar_row (P := Try.prog) z0.drew w.heap.size 27 27 #[.int .u16 y.i, .int .i64 y.n, .int .u8 y.d0, .int .u8 y.d1, .int .u8 y.d2, .int .u8 y.d3, .int .u8 y.d4, .int .u8 y.d5, .int .u8 y.d6, .int .u8 y.d7, .bool y.r] (0, 0) _ ((bz0.block w.heap.size (by simp)).trans (heap_alloc_last w _)) Try.underlying27 rfl sizeF
  have L2 : (loadVar 2 ⟨p, 1, none⟩).run Try.prog z0.drew = .ok (.int .i64 y.nm) z0.drew := by
    have := H0.c1
    simp [go_sem, this]
  have HL := len_any a1 l.length c1 z0
  have BD : Below w.heap.size w z0.drew := Below.drew B0
  have AD := AD0.out z0.drew BD (by have := B0.size; show base ≤ z0.heap.size; omega)
  have KA : Hid (Ko p base w z0.drew) := Ko.of BD
  clear H0 HN AD0 bz0 kz0 B0 BD hx RI
  go_wp2_with fail
  refine HL.mono ?_
  rintro e z0 ⟨rfl, rfl⟩
  clear HL
  go_wp2_with fail
  refine wp_region_held_drew (S := fun _ => True) (by kernel_rfl) trivial (fun hHeld => ?_)
  refine wpAnyH_take (i := 0) (v := (.pointer (some ⟨p, 0, none⟩))) rfl (by kernel_rfl) (by kernel_rfl) (by kernel_rfl) (fun _ _ _ h => h) (Or.inl ⟨by rfl, ?_⟩) (by assumption) ?_
  · intro w9 hSw
    try dsimp only at hSw
    go_simp
    all_goals try decide
    all_goals try assumption
  try simp only [Act.put, List.getElem_toArray, List.getElem_cons_succ, List.getElem_cons_zero, List.setIfInBounds_toArray, List.set_cons_zero, List.set_cons_succ]
  refine wpAnyH_take (i := 1) (v := (.pointer (some ⟨p, 0, none⟩))) rfl (by kernel_rfl) (by kernel_rfl) (by kernel_rfl) (fun _ _ _ h => h) (Or.inl ⟨by rfl, ?_⟩) (by assumption) ?_
  · intro w9 hSw
    try dsimp only at hSw
    go_simp
    all_goals try decide
    all_goals try assumption
  try simp only [Act.put, List.getElem_toArray, List.getElem_cons_succ, List.getElem_cons_zero, List.setIfInBounds_toArray, List.set_cons_zero, List.set_cons_succ]
  refine wpAnyH_take (i := 2) (v := (.pointer (some ⟨p, 0, none⟩))) rfl (by kernel_rfl) (by kernel_rfl) (by kernel_rfl) (fun _ _ _ h => h) (Or.inl ⟨by rfl, ?_⟩) (by assumption) ?_
  · intro w9 hSw
    try dsimp only at hSw
    go_simp
    all_goals try decide
    all_goals try assumption
  try simp only [Act.put, List.getElem_toArray, List.getElem_cons_succ, List.getElem_cons_zero, List.setIfInBounds_toArray, List.set_cons_zero, List.set_cons_succ]
  refine wpAnyH_take (i := 3) (v := (.int .i64 y.nd)) rfl (by kernel_rfl) (by kernel_rfl) (by kernel_rfl) (fun _ _ _ h => h) (Or.inl ⟨by rfl, ?_⟩) (by assumption) ?_
  · intro w9 hSw
    try dsimp only at hSw
    go_simp
    all_goals try decide
    all_goals try assumption
  try simp only [Act.put, List.getElem_toArray, List.getElem_cons_succ, List.getElem_cons_zero, List.setIfInBounds_toArray, List.set_cons_zero, List.set_cons_succ]
  refine wpAnyH_take (i := 5) (v := (.pointer (some ⟨p, 0, none⟩))) rfl (by kernel_rfl) (by kernel_rfl) (by kernel_rfl) (fun _ _ _ h => h) (Or.inl ⟨by rfl, ?_⟩) (by assumption) ?_
  · intro w9 hSw
    try dsimp only at hSw
    go_simp
    all_goals try decide
    all_goals try assumption
  try simp only [Act.put, List.getElem_toArray, List.getElem_cons_succ, List.getElem_cons_zero, List.setIfInBounds_toArray, List.set_cons_zero, List.set_cons_succ]
  refine wpAnyH_take (i := 6) (v := (.pointer (some ⟨p, 0, none⟩))) rfl (by kernel_rfl) (by kernel_rfl) (by kernel_rfl) (fun _ _ _ h => h) (Or.inl ⟨by rfl, ?_⟩) (by assumption) ?_
  · intro w9 hSw
    try dsimp only at hSw
    go_simp
    all_goals try decide
    all_goals try assumption
  try simp only [Act.put, List.getElem_toArray, List.getElem_cons_succ, List.getElem_cons_zero, List.setIfInBounds_toArray, List.set_cons_zero, List.set_cons_succ]
  refine wpAnyH_take (i := 7) (v := (.pointer (some ⟨p, 1, none⟩))) rfl (by kernel_rfl) (by kernel_rfl) (by kernel_rfl) (fun _ _ _ h => h) (Or.inl ⟨by rfl, ?_⟩) (by assumption) ?_
  · intro w9 hSw
    try dsimp only at hSw
    go_simp
    all_goals try decide
    all_goals try assumption
  try simp only [Act.put, List.getElem_toArray, List.getElem_cons_succ, List.getElem_cons_zero, List.setIfInBounds_toArray, List.set_cons_zero, List.set_cons_succ]
  refine wpAnyH_ready (rs := [4, 8]) (by kernel_rfl) (by simp) ?_
  refine AllReadyH.cons rfl (fun K' hK => ?_) (AllReadyH.cons rfl (fun K' hK => ?_) AllReadyH.nil)
  · rw [if_pos (by rfl)]
    simp only [List.getElem_toArray, List.getElem_cons_succ, List.getElem_cons_zero]
    refine wp_load_by 27 (.tmp 5) rfl _ _ rfl L1 ?_
    refine hK.out _ _ trivial (fun hHeld => ?_)
    clear hK K'
    try simp only [Act.put, List.getElem_toArray, List.getElem_cons_succ, List.getElem_cons_zero, List.setIfInBounds_toArray, List.set_cons_zero, List.set_cons_succ]
    refine wpAnyH_ready (rs := [8]) (by kernel_rfl) (by simp) ?_
    refine AllReadyH.cons rfl (fun K' hK => ?_) AllReadyH.nil
    rw [if_pos (by rfl)]
    simp only [List.getElem_toArray, List.getElem_cons_succ, List.getElem_cons_zero]
    refine wp_load_by 2 (.tmp 32) rfl _ _ rfl L2 ?_
    refine hK.out _ _ trivial (fun hHeld => ?_)
    clear hK K'
    try simp only [Act.put, List.getElem_toArray, List.getElem_cons_succ, List.getElem_cons_zero, List.setIfInBounds_toArray, List.set_cons_zero, List.set_cons_succ]
    refine wpAnyH_take (i := 9) (v := (.agg y.A)) rfl (by kernel_rfl) (by kernel_rfl) (by kernel_rfl) (fun _ _ _ h => h) (Or.inl ⟨by rfl, ?_⟩) (by assumption) ?_
    · intro w9 hSw
      try dsimp only at hSw
      go_simp
      all_goals try decide
      all_goals try assumption
    try simp only [Act.put, List.getElem_toArray, List.getElem_cons_succ, List.getElem_cons_zero, List.setIfInBounds_toArray, List.set_cons_zero, List.set_cons_succ]
    refine wpAnyH_ready (rs := [10]) (by kernel_rfl) (by simp) ?_
    refine AllReadyH.cons rfl (fun K' hK => ?_) AllReadyH.nil
    rw [if_pos (by rfl)]
    simp only [List.getElem_toArray, List.getElem_cons_succ, List.getElem_cons_zero]
    go_wp2_with fail
    refine AD.mono ?_
    rintro e z ⟨rfl, ⟨v2, l', hR, Hz⟩, kz⟩
    try go_wp2_with fail
    refine hK.out _ _ trivial (fun hHeld => ?_)
    clear hK K'
    try simp only [Act.put, List.getElem_toArray, List.getElem_cons_succ, List.getElem_cons_zero, List.setIfInBounds_toArray, List.set_cons_zero, List.set_cons_succ]
    refine wpAnyH_done (by kernel_rfl) ?_ _
    have k1 := Hz.c1
    have f1 := Hz.fz 1
    have RES : Hid (IsB (z.setCell ⟨p, 1, none⟩ (.int .i64 (y.nm + 1))) base p v2 l' (y.nm + 1) ∧ Ko p base w (z.setCell ⟨p, 1, none⟩ (.int .i64 (y.nm + 1)))) := ⟨Hz.set1 _, (KA.out.trans kz).set _ _⟩
    clear Hz kz
    go_wp2_with fail
    go_ret
    exact ⟨rfl, ⟨_, l', hR, RES.out.1⟩, RES.out.2⟩
  · rw [if_pos (by rfl)]
    simp only [List.getElem_toArray, List.getElem_cons_succ, List.getElem_cons_zero]
    refine wp_load_by 2 (.tmp 32) rfl _ _ rfl L2 ?_
    refine hK.out _ _ trivial (fun hHeld => ?_)
    clear hK K'
    try simp only [Act.put, List.getElem_toArray, List.getElem_cons_succ, List.getElem_cons_zero, List.setIfInBounds_toArray, List.set_cons_zero, List.set_cons_succ]
    refine wpAnyH_ready (rs := [4]) (by kernel_rfl) (by simp) ?_
    refine AllReadyH.cons rfl (fun K' hK => ?_) AllReadyH.nil
    rw [if_pos (by rfl)]
    simp only [List.getElem_toArray, List.getElem_cons_succ, List.getElem_cons_zero]
    refine wp_load_by 27 (.tmp 5) rfl _ _ rfl L1 ?_
    refine hK.out _ _ trivial (fun hHeld => ?_)
    clear hK K'
    try simp only [Act.put, List.getElem_toArray, List.getElem_cons_succ, List.getElem_cons_zero, List.setIfInBounds_toArray, List.set_cons_zero, List.set_cons_succ]
    refine wpAnyH_take (i := 9) (v := (.agg y.A)) rfl (by kernel_rfl) (by kernel_rfl) (by kernel_rfl) (fun _ _ _ h => h) (Or.inl ⟨by rfl, ?_⟩) (by assumption) ?_
    · intro w9 hSw
      try dsimp only at hSw
      go_simp
      all_goals try decide
      all_goals try assumption
    try simp only [Act.put, List.getElem_toArray, List.getElem_cons_succ, List.getElem_cons_zero, List.setIfInBounds_toArray, List.set_cons_zero, List.set_cons_succ]
    refine wpAnyH_ready (rs := [10]) (by kernel_rfl) (by simp) ?_
    refine AllReadyH.cons rfl (fun K' hK => ?_) AllReadyH.nil
    rw [if_pos (by rfl)]
    simp only [List.getElem_toArray, List.getElem_cons_succ, List.getElem_cons_zero]
    go_wp2_with fail
    refine AD.mono ?_
    rintro e z ⟨rfl, ⟨v2, l', hR, Hz⟩, kz⟩
    try go_wp2_with fail
    refine hK.out _ _ trivial (fun hHeld => ?_)
    clear hK K'
    try simp only [Act.put, List.getElem_toArray, List.getElem_cons_succ, List.getElem_cons_zero, List.setIfInBounds_toArray, List.set_cons_zero, List.set_cons_succ]
    refine wpAnyH_done (by kernel_rfl) ?_ _
    have k1 := Hz.c1
    have f1 := Hz.fz 1
    have RES : Hid (IsB (z.setCell ⟨p, 1, none⟩ (.int .i64 (y.nm + 1))) base p v2 l' (y.nm + 1) ∧ Ko p base w (z.setCell ⟨p, 1, none⟩ (.int .i64 (y.nm + 1)))) := ⟨Hz.set1 _, (KA.out.trans kz).set _ _⟩
    clear Hz kz
    go_wp2_with fail
    go_ret
    exact ⟨rfl, ⟨_, l', hR, RES.out.1⟩, RES.out.2⟩
#print axioms send_ofR

/-- What Send answers. -/
def sndE (nd : Int) (ok : Bool) (n : Nat) : Int := if nd < 0 then 2 else if ok = false then 30 else if 512 ≤ n then 40 else 0
abbrev Sn.ok (y : Sn) : Bool := rightB y.i y.n [y.d0, y.d1, y.d2, y.d3, y.d4, y.d5, y.d6, y.d7] y.r

set_option linter.unusedSimpArgs false in
set_option maxHeartbeats 4000000 in
set_option maxRecDepth 100000 in
theorem send_bad {w : World} {base p : Nat} {v : Value} {l : List Sn} {y : Sn} {ct : Int} (h : IsB w base p v l ct) (ho : Oct [y.d0, y.d1, y.d2, y.d3, y.d4, y.d5, y.d6, y.d7]) (hb : sndE y.nd y.ok l.length ≠ 0) :
    Calls Try.prog 15 #[.pointer (some ⟨p, 0, none⟩), .int .i64 y.nd, .agg #[.int .u16 y.i, .int .i64 y.n, .int .u8 y.d0, .int .u8 y.d1, .int .u8 y.d2, .int .u8 y.d3, .int .u8 y.d4, .int .u8 y.d5, .int .u8 y.d6, .int .u8 y.d7, .bool y.r]] w fun e w' => e = .returned (.int .i64 (sndE y.nd y.ok l.length)) ∧ Below w.heap.size w w' := by
  have RI := fun w => right_any y.i y.n y.d0 y.d1 y.d2 y.d3 y.d4 y.d5 y.d6 y.d7 y.r w ho
  have hx : Below w.heap.size w (w.alloc (.cells #[.int .u16 y.i, .int .i64 y.n, .int .u8 y.d0, .int .u8 y.d1, .int .u8 y.d2, .int .u8 y.d3, .int .u8 y.d4, .int .u8 y.d5, .int .u8 y.d6, .int .u8 y.d7, .bool y.r] 27)) := Below.al (Below.refl _ _) _
  by_cases c1 : y.nd < 0
  · rw [show sndE y.nd y.ok l.length = 2 from by unfold sndE; rw [if_pos c1]]
    clear h RI hb
    go_enter Try.func15, Try.ntmps15
    go_wp2_with fail
    go_ret
    exact ⟨rfl, hx⟩
  cases hr : y.ok with
  | false =>
    rw [show sndE y.nd false l.length = 30 from by unfold sndE; rw [if_neg c1, if_pos rfl]]
    rw [show rightB y.i y.n [y.d0, y.d1, y.d2, y.d3, y.d4, y.d5, y.d6, y.d7] y.r = false from hr] at RI
    clear h hb hr
    go_enter Try.func15, Try.ntmps15
    go_wp2_with fail
    refine (RI _).mono ?_
    rintro e z ⟨rfl, bz⟩
    go_wp2_with fail
    go_ret
    exact ⟨rfl, Below.andThen hx bz⟩
  | true =>
    rw [show rightB y.i y.n [y.d0, y.d1, y.d2, y.d3, y.d4, y.d5, y.d6, y.d7] y.r = true from hr] at RI
    have hn : 512 ≤ l.length := by
      apply Classical.byContradiction
      intro hc
      apply hb
      unfold sndE
      rw [hr, if_neg c1, if_neg (by decide), if_neg hc]
    rw [show sndE y.nd true l.length = 40 from by unfold sndE; rw [if_neg c1, if_neg (by decide), if_pos hn]]
    have hn' : (512 : Int) ≤ (l.length : Int) := by omega
    obtain ⟨g, cap, rfl⟩ := h.own.some (by intro e; rw [e] at hn; simp at hn)
    have HN : Hid (∀ z, Below w.heap.size w z → z.cell? ⟨p, 0, none⟩ = some (.slice (some ⟨g, 0, none⟩) l.length cap)) := fun z hz => (h.next hz).c0
    clear h hb hr hn
    go_enter Try.func15, Try.ntmps15
    go_wp2_with fail
    refine (RI _).mono ?_
    rintro e z ⟨rfl, bz⟩
    have B0 : Below w.heap.size w z := Below.andThen hx bz
    have k0 := HN.out z B0
    have HL := len_any (some ⟨g, 0, none⟩) l.length cap z
    clear RI bz HN
    go_wp2_with fail
    refine HL.mono ?_
    rintro e z ⟨rfl, rfl⟩
    clear HL
    go_wp2_with fail
    go_ret
    exact ⟨rfl, B0⟩
#print axioms send_bad

theorem send_ok {w : World} {base p : Nat} {v : Value} {l : List Sn} {y : Sn} (h : IsB w base p v l y.nm) (hb : base ≤ w.heap.size) (ho : Oct [y.d0, y.d1, y.d2, y.d3, y.d4, y.d5, y.d6, y.d7]) (he : sndE y.nd y.ok l.length = 0) (hh : Heap l l.length) (hc0 : 0 ≤ y.nm) (hc : y.nm < 1000000) :
    Calls Try.prog 15 #[.pointer (some ⟨p, 0, none⟩), .int .i64 y.nd, .agg #[.int .u16 y.i, .int .i64 y.n, .int .u8 y.d0, .int .u8 y.d1, .int .u8 y.d2, .int .u8 y.d3, .int .u8 y.d4, .int .u8 y.d5, .int .u8 y.d6, .int .u8 y.d7, .bool y.r]] w fun e w' => e = .returned (.int .i64 0) ∧ (∃ v' l', (l'.Perm (l ++ [y]) ∧ Heap l' l'.length) ∧ IsB w' base p v' l' (y.nm + 1)) ∧ Ko p base w w' := by
  have c1 : ¬ y.nd < 0 := fun e => by unfold sndE at he; rw [if_pos e] at he; cases he
  have c2 : y.ok = true := by
    cases hr : y.ok with
    | true => rfl
    | false => unfold sndE at he; rw [hr, if_neg c1, if_pos rfl] at he; cases he
  have c3 : l.length < 512 := by
    apply Classical.byContradiction
    intro e
    unfold sndE at he
    rw [c2, if_neg c1, if_neg (by decide), if_pos (by omega)] at he
    cases he
  exact send_ofR (R := fun l' => l'.Perm (l ++ [y]) ∧ Heap l' l'.length) (fun z v hz hbz => (heapPush_any hz hbz (by omega) hh).mono (fun e w' hq => ⟨hq.1, by obtain ⟨v', l', a, b, c⟩ := hq.2.1; exact ⟨v', l', ⟨a, b⟩, c⟩, hq.2.2⟩)) h hb c1 ho c2 c3 hc0 hc
#print axioms send_ok

set_option linter.unusedSimpArgs false in
set_option maxHeartbeats 4000000 in
set_option maxRecDepth 100000 in
theorem take_any {w : World} {base p g cap n : Nat} {l : List Sn} {ct : Int} (h : IsB w base p (.slice (some ⟨g, 0, none⟩) (n + 1) cap) l ct) (hN : l.length = n + 1) (hl : n ≤ 100000) (hh : Heap l (n + 1)) :
    Calls Try.prog 24 #[.pointer (some ⟨p, 0, none⟩)] w fun e w' => e = .returned (.tuple #[.agg (at_ l 0).A, .bool true]) ∧ (∃ m, m.length = n ∧ (m ++ [at_ l 0]).Perm l ∧ Heap m n ∧ IsB w' base p (.slice (some ⟨g, 0, none⟩) n cap) m ct) ∧ Kp [p, g] w w' := by
  have hN' := fun o => h.next (Below.al (Below.refl w.heap.size w) o)
  have k0 := fun o => (hN' o).c0
  have HL := fun o => len_any (some ⟨g, 0, none⟩) (n + 1) cap (w.alloc o)
  have HP : Hid (∀ o, Calls Try.prog 33 #[.iface 69 (.pointer (some ⟨p, 0, none⟩))] (w.alloc o) fun e w' => e = .returned (.iface 42 (.agg (at_ l 0).A)) ∧ (∃ m, m.length = n ∧ (m ++ [at_ l 0]).Perm l ∧ Heap m n ∧ IsB w' base p (.slice (some ⟨g, 0, none⟩) n cap) m ct) ∧ Kp [p, g] (w.alloc o) w') := fun o => heapPop_any (hN' o) hN hl hh
  have nb : p < w.heap.size ∧ g < w.heap.size := ⟨lt_of_heap h.head, h.old.2⟩
  generalize hy : at_ l 0 = y at *
  clear hy
  have TA : ∀ w, (Instr.typeAssert (.iface 42 (.agg y.A)) 20 42 false).run Try.prog w = .ok (.agg y.A) w := fun w => by kernel_rfl
  have nz : (((n + 1 : Nat) : Int) == 0) = false := by simp; omega
  obtain ⟨N, hNN⟩ : ∃ N, Hid (N = n + 1) := ⟨_, rfl⟩
  rw [← hNN.out] at k0 HL nz
  clear h hN' hN hh
  go_enter Try.func24, Try.ntmps24
  go_wp2_with fail
  refine (HL _).mono ?_
  rintro e w2 ⟨rfl, rfl⟩
  clear HL
  go_wp2_with fail
  refine (HP.out _).mono ?_
  rintro e z ⟨rfl, ⟨m, m1, m2, m3, Hz⟩, kz⟩
  clear HP k0
  have hblk := (kz.block w.heap.size (by simp) (by simp; omega)).trans (heap_alloc_last w _)
  obtain ⟨w9, ST, LR, K9⟩ := put_new y _ rfl hblk
  have RES : Hid ((∃ m, m.length = n ∧ (m ++ [y]).Perm l ∧ Heap m n ∧ IsB w9 base p (.slice (some ⟨g, 0, none⟩) n cap) m ct) ∧ Kp [p, g] w w9) := by
    have hz := Hz.old
    refine ⟨⟨m, m1, m2, m3, ⟨by rw [K9.block p (lt_of_heap Hz.head) (by simp; omega)]; exact Hz.head, Hz.own.kept (row := some w.heap.size) ⟨K9.os, K9.tape, K9.output, K9.size, fun k hk hn => K9.block k hk (by simpa using hn)⟩ (.inr (by simp [Value.ownBlock]; omega)), Hz.lt⟩⟩, ?_⟩
    have k1 : Kp [p, g] w z := (Kp.al (Kp.refl _ _) _).trans kz
    exact k1.fresh K9 (by intro i hi; simp at hi; right; omega)
  have r0 : w9.cell? ⟨w.heap.size, 0, none⟩ = some (.int .i64 y.nd) := by rw [cell_of_row w9 _ 0 _ _ _ LR]; rfl
  have r1 : w9.cell? ⟨w.heap.size, 1, none⟩ = some (.int .u16 y.i) := by rw [cell_of_row w9 _ 1 _ _ _ LR]; rfl
  have r2 : w9.cell? ⟨w.heap.size, 2, none⟩ = some (.int .i64 y.n) := by rw [cell_of_row w9 _ 2 _ _ _ LR]; rfl
  have r3 : w9.cell? ⟨w.heap.size, 3, none⟩ = some (.int .u8 y.d0) := by rw [cell_of_row w9 _ 3 _ _ _ LR]; rfl
  have r4 : w9.cell? ⟨w.heap.size, 4, none⟩ = some (.int .u8 y.d1) := by rw [cell_of_row w9 _ 4 _ _ _ LR]; rfl
  have r5 : w9.cell? ⟨w.heap.size, 5, none⟩ = some (.int .u8 y.d2) := by rw [cell_of_row w9 _ 5 _ _ _ LR]; rfl
  have r6 : w9.cell? ⟨w.heap.size, 6, none⟩ = some (.int .u8 y.d3) := by rw [cell_of_row w9 _ 6 _ _ _ LR]; rfl
  have r7 : w9.cell? ⟨w.heap.size, 7, none⟩ = some (.int .u8 y.d4) := by rw [cell_of_row w9 _ 7 _ _ _ LR]; rfl
  have r8 : w9.cell? ⟨w.heap.size, 8, none⟩ = some (.int .u8 y.d5) := by rw [cell_of_row w9 _ 8 _ _ _ LR]; rfl
  have r9 : w9.cell? ⟨w.heap.size, 9, none⟩ = some (.int .u8 y.d6) := by rw [cell_of_row w9 _ 9 _ _ _ LR]; rfl
  have r10 : w9.cell? ⟨w.heap.size, 10, none⟩ = some (.int .u8 y.d7) := by rw [cell_of_row w9 _ 10 _ _ _ LR]; rfl
  have r11 : w9.cell? ⟨w.heap.size, 11, none⟩ = some (.bool y.r) := by rw [cell_of_row w9 _ 11 _ _ _ LR]; rfl
  have r12 : w9.cell? ⟨w.heap.size, 12, none⟩ = some (.int .i64 y.nm) := by rw [cell_of_row w9 _ 12 _ _ _ LR]; rfl
  clear hblk Hz kz K9 LR m1 m2 m3
  go_wp2_with (refine wpList_store_by rfl 42 (.tmp 2) (.tmp 14) rfl _ _ rfl rfl ST ?_)
  exact bodyPost_ret (v := .tuple #[.agg y.A, .bool true]) (by simp [results, Try.results24, go_sem, r0, r1, r2, r3, r4, r5, r6, r7, r8, r9, r10, r11, r12]) rfl ⟨rfl, RES.out⟩
#print axioms take_any

set_option linter.unusedSimpArgs false in
set_option maxHeartbeats 4000000 in
set_option maxRecDepth 100000 in
theorem next_any {w : World} {base p g cap n : Nat} {l : List Sn} {ct : Int} (h : IsB w base p (.slice (some ⟨g, 0, none⟩) (n + 1) cap) l ct) (hN : l.length = n + 1) (hl : n ≤ 100000) (hh : Heap l (n + 1)) :
    Calls Try.prog 14 #[.pointer (some ⟨p, 0, none⟩)] w fun e w' => e = .returned (.tuple #[.agg (at_ l 0).A, .bool true]) ∧ (∃ m, m.length = n ∧ (m ++ [at_ l 0]).Perm l ∧ Heap m n ∧ IsB w' base p (.slice (some ⟨g, 0, none⟩) n cap) m ct) ∧ Kp [p, g] w w' := by
  have hN' := fun o => h.next (Below.al (Below.refl w.heap.size w) o)
  have HP : Hid (∀ o, Calls Try.prog 24 #[.pointer (some ⟨p, 0, none⟩)] (w.alloc o) fun e w' => e = .returned (.tuple #[.agg (at_ l 0).A, .bool true]) ∧ (∃ m, m.length = n ∧ (m ++ [at_ l 0]).Perm l ∧ Heap m n ∧ IsB w' base p (.slice (some ⟨g, 0, none⟩) n cap) m ct) ∧ Kp [p, g] (w.alloc o) w') := fun o => take_any (hN' o) hN hl hh
  have nb : p < w.heap.size ∧ g < w.heap.size := ⟨lt_of_heap h.head, h.old.2⟩
  generalize hy : at_ l 0 = y at *
  clear hy
  clear h hN' hN hh
  go_enter Try.func14, Try.ntmps14
  go_wp2_with fail
  refine (HP.out _).mono ?_
  rintro e z ⟨rfl, ⟨m, m1, m2, m3, Hz⟩, kz⟩
  clear HP
  have hblk := (kz.block w.heap.size (by simp) (by simp; omega)).trans (heap_alloc_last w _)
  obtain ⟨w9, ST, LR, K9⟩ := put_new y _ rfl hblk
  have RES : Hid ((∃ m, m.length = n ∧ (m ++ [y]).Perm l ∧ Heap m n ∧ IsB w9 base p (.slice (some ⟨g, 0, none⟩) n cap) m ct) ∧ Kp [p, g] w w9) := by
    have hz := Hz.old
    refine ⟨⟨m, m1, m2, m3, ⟨by rw [K9.block p (lt_of_heap Hz.head) (by simp; omega)]; exact Hz.head, Hz.own.kept (row := some w.heap.size) ⟨K9.os, K9.tape, K9.output, K9.size, fun k hk hn => K9.block k hk (by simpa using hn)⟩ (.inr (by simp [Value.ownBlock]; omega)), Hz.lt⟩⟩, ?_⟩
    have k1 : Kp [p, g] w z := (Kp.al (Kp.refl _ _) _).trans kz
    exact k1.fresh K9 (by intro i hi; simp at hi; right; omega)
  have r0 : w9.cell? ⟨w.heap.size, 0, none⟩ = some (.int .i64 y.nd) := by rw [cell_of_row w9 _ 0 _ _ _ LR]; rfl
  have r1 : w9.cell? ⟨w.heap.size, 1, none⟩ = some (.int .u16 y.i) := by rw [cell_of_row w9 _ 1 _ _ _ LR]; rfl
  have r2 : w9.cell? ⟨w.heap.size, 2, none⟩ = some (.int .i64 y.n) := by rw [cell_of_row w9 _ 2 _ _ _ LR]; rfl
  have r3 : w9.cell? ⟨w.heap.size, 3, none⟩ = some (.int .u8 y.d0) := by rw [cell_of_row w9 _ 3 _ _ _ LR]; rfl
  have r4 : w9.cell? ⟨w.heap.size, 4, none⟩ = some (.int .u8 y.d1) := by rw [cell_of_row w9 _ 4 _ _ _ LR]; rfl
  have r5 : w9.cell? ⟨w.heap.size, 5, none⟩ = some (.int .u8 y.d2) := by rw [cell_of_row w9 _ 5 _ _ _ LR]; rfl
  have r6 : w9.cell? ⟨w.heap.size, 6, none⟩ = some (.int .u8 y.d3) := by rw [cell_of_row w9 _ 6 _ _ _ LR]; rfl
  have r7 : w9.cell? ⟨w.heap.size, 7, none⟩ = some (.int .u8 y.d4) := by rw [cell_of_row w9 _ 7 _ _ _ LR]; rfl
  have r8 : w9.cell? ⟨w.heap.size, 8, none⟩ = some (.int .u8 y.d5) := by rw [cell_of_row w9 _ 8 _ _ _ LR]; rfl
  have r9 : w9.cell? ⟨w.heap.size, 9, none⟩ = some (.int .u8 y.d6) := by rw [cell_of_row w9 _ 9 _ _ _ LR]; rfl
  have r10 : w9.cell? ⟨w.heap.size, 10, none⟩ = some (.int .u8 y.d7) := by rw [cell_of_row w9 _ 10 _ _ _ LR]; rfl
  have r11 : w9.cell? ⟨w.heap.size, 11, none⟩ = some (.bool y.r) := by rw [cell_of_row w9 _ 11 _ _ _ LR]; rfl
  have r12 : w9.cell? ⟨w.heap.size, 12, none⟩ = some (.int .i64 y.nm) := by rw [cell_of_row w9 _ 12 _ _ _ LR]; rfl
  clear hblk Hz kz K9 LR m1 m2 m3
  go_wp2_with (refine wpList_store_by rfl 42 (.tmp 2) (.tmp 11) rfl _ _ rfl rfl ST ?_)
  exact bodyPost_ret (v := .tuple #[.agg y.A, .bool true]) (by simp [results, Try.results14, go_sem, r0, r1, r2, r3, r4, r5, r6, r7, r8, r9, r10, r11, r12]) rfl ⟨rfl, RES.out⟩
#print axioms next_any

set_option linter.unusedSimpArgs false in
set_option maxHeartbeats 4000000 in
set_option maxRecDepth 100000 in
theorem take_none {w : World} {base p c : Nat} {a : Option Addr} {ct : Int} (h : IsB w base p (.slice a 0 c) [] ct) : Calls Try.prog 24 #[.pointer (some ⟨p, 0, none⟩)] w fun e w' => e = .returned (.tuple #[.agg #[.int .i64 0, .int .u16 0, .int .i64 0, .int .u8 0, .int .u8 0, .int .u8 0, .int .u8 0, .int .u8 0, .int .u8 0, .int .u8 0, .int .u8 0, .bool false, .int .i64 0], .bool false]) ∧ Below w.heap.size w w' := by
  have k0 := fun o => (h.next (Below.al (Below.refl w.heap.size w) o)).c0
  have HL := fun o => len_any a 0 c (w.alloc o)
  clear h
  go_enter Try.func24, Try.ntmps24
  go_wp2_with fail
  refine (HL _).mono ?_
  rintro e w2 ⟨rfl, rfl⟩
  clear HL
  go_wp2_with fail
  exact bodyPost_ret (v := .tuple #[.agg #[.int .i64 0, .int .u16 0, .int .i64 0, .int .u8 0, .int .u8 0, .int .u8 0, .int .u8 0, .int .u8 0, .int .u8 0, .int .u8 0, .int .u8 0, .bool false, .int .i64 0], .bool false]) (by simp [results, Try.results24, go_sem]) rfl ⟨rfl, Below.al (Below.refl _ _) _⟩

set_option linter.unusedSimpArgs false in
set_option maxHeartbeats 4000000 in
set_option maxRecDepth 100000 in
theorem next_none {w : World} {base p c : Nat} {a : Option Addr} {ct : Int} (h : IsB w base p (.slice a 0 c) [] ct) : Calls Try.prog 14 #[.pointer (some ⟨p, 0, none⟩)] w fun e w' => e = .returned (.tuple #[.agg #[.int .i64 0, .int .u16 0, .int .i64 0, .int .u8 0, .int .u8 0, .int .u8 0, .int .u8 0, .int .u8 0, .int .u8 0, .int .u8 0, .int .u8 0, .bool false, .int .i64 0], .bool false]) ∧ Below w.heap.size w w' := by
  have TK := fun o => take_none (h.next (Below.al (Below.refl w.heap.size w) o))
  clear h
  go_enter Try.func14, Try.ntmps14
  go_wp2_with fail
  refine (TK _).mono ?_
  rintro e z ⟨rfl, bz⟩
  clear TK
  have hblk := (bz.block w.heap.size (by simp)).trans (heap_alloc_last w _)
  obtain ⟨w9, ST, LR, K9⟩ := put_new default _ rfl hblk
  have y0 : (default : Sn).A = #[.int .i64 0, .int .u16 0, .int .i64 0, .int .u8 0, .int .u8 0, .int .u8 0, .int .u8 0, .int .u8 0, .int .u8 0, .int .u8 0, .int .u8 0, .bool false, .int .i64 0] := rfl
  rw [y0] at ST LR
  have RES : Hid (Below w.heap.size w w9) := Kp.below (Below.andThen (Below.al (Below.refl _ _) _) bz) K9 (by have := bz.size; simp at this; omega) (by intro i hi; simp at hi; omega)
  have r0 : w9.cell? ⟨w.heap.size, 0, none⟩ = some (.int .i64 0) := by rw [cell_of_row w9 _ 0 _ _ _ LR]; rfl
  have r1 : w9.cell? ⟨w.heap.size, 1, none⟩ = some (.int .u16 0) := by rw [cell_of_row w9 _ 1 _ _ _ LR]; rfl
  have r2 : w9.cell? ⟨w.heap.size, 2, none⟩ = some (.int .i64 0) := by rw [cell_of_row w9 _ 2 _ _ _ LR]; rfl
  have r3 : w9.cell? ⟨w.heap.size, 3, none⟩ = some (.int .u8 0) := by rw [cell_of_row w9 _ 3 _ _ _ LR]; rfl
  have r4 : w9.cell? ⟨w.heap.size, 4, none⟩ = some (.int .u8 0) := by rw [cell_of_row w9 _ 4 _ _ _ LR]; rfl
  have r5 : w9.cell? ⟨w.heap.size, 5, none⟩ = some (.int .u8 0) := by rw [cell_of_row w9 _ 5 _ _ _ LR]; rfl
  have r6 : w9.cell? ⟨w.heap.size, 6, none⟩ = some (.int .u8 0) := by rw [cell_of_row w9 _ 6 _ _ _ LR]; rfl
  have r7 : w9.cell? ⟨w.heap.size, 7, none⟩ = some (.int .u8 0) := by rw [cell_of_row w9 _ 7 _ _ _ LR]; rfl
  have r8 : w9.cell? ⟨w.heap.size, 8, none⟩ = some (.int .u8 0) := by rw [cell_of_row w9 _ 8 _ _ _ LR]; rfl
  have r9 : w9.cell? ⟨w.heap.size, 9, none⟩ = some (.int .u8 0) := by rw [cell_of_row w9 _ 9 _ _ _ LR]; rfl
  have r10 : w9.cell? ⟨w.heap.size, 10, none⟩ = some (.int .u8 0) := by rw [cell_of_row w9 _ 10 _ _ _ LR]; rfl
  have r11 : w9.cell? ⟨w.heap.size, 11, none⟩ = some (.bool false) := by rw [cell_of_row w9 _ 11 _ _ _ LR]; rfl
  have r12 : w9.cell? ⟨w.heap.size, 12, none⟩ = some (.int .i64 0) := by rw [cell_of_row w9 _ 12 _ _ _ LR]; rfl
  clear hblk K9 LR bz y0
  go_wp2_with (refine wpList_store_by rfl 42 (.tmp 2) (.tmp 11) rfl _ _ rfl rfl ST ?_)
  exact bodyPost_ret (v := .tuple #[.agg #[.int .i64 0, .int .u16 0, .int .i64 0, .int .u8 0, .int .u8 0, .int .u8 0, .int .u8 0, .int .u8 0, .int .u8 0, .int .u8 0, .int .u8 0, .bool false, .int .i64 0], .bool false]) (by simp [results, Try.results14, go_sem, r0, r1, r2, r3, r4, r5, r6, r7, r8, r9, r10, r11, r12]) rfl ⟨rfl, RES.out⟩
#print axioms next_none
end Go.Proofs.Ytndlpjfofjikeaa
