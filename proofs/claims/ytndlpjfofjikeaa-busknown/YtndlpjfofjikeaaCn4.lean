/-
  The document's Send on an empty bus.
-/
import Derived.Test.YtndlpjfofjikeaaCm4
import Derived.Laws.AppendOwnNone
namespace Go.Proofs.Ytndlpjfofjikeaa
open Go.RowKit

theorem app_nn {w : World} {ops : Array Oper} {rest : List Oper} {o : Oper} {a : Act} {Q : Exit → Act → World → Prop} (hgd : o.guard = none) (s x : Operand) (t : TypeId)
    (ho : o.op = .call { callee := .builtin .append, args := #[s, x], argTypes := #[t, t] }) (base : Nat) (e : TypeId) (i : TypeInfo) (size : Nat) (ht : Try.prog.underlying t = some (.slice e)) (hi : Try.prog.info? e = some i)
    (hs : a.eval s = .slice none 0 0) (hx : a.eval x = .slice none 0 0)
    (h : ∀ v', Hid (∀ z : World, z.ownsRow base e size v' 0 []) → Hid (v' = .slice none 0 0) → wpList Try.prog ops Q rest (a.put o.dst v') w) : wpList Try.prog ops Q (o :: rest) a w :=
  wpList_append_own_none hgd s x t ho base e i size ht hi (.slice none 0 0) 0 [] hs (World.ownsRow_nil w base e size) hx (h _ (fun z => World.ownsRow_nil z base e size) rfl)

set_option linter.unusedSimpArgs false in
set_option maxHeartbeats 4000000 in
set_option maxRecDepth 100000 in
theorem rsend_nil {w : World} {p : Nat} (y : Sn) (h : IsD w p (.slice none 0 0) [] y.nm) (he : sndE y.nd y.ok 0 = 0) (hc0 : 0 ≤ y.nm) (hc : y.nm < 1000000) :
    Calls Try.prog 23 #[.pointer (some ⟨p, 0, none⟩), .int .i64 y.nd, .agg #[.int .u16 y.i, .int .i64 y.n, .int .u8 y.d0, .int .u8 y.d1, .int .u8 y.d2, .int .u8 y.d3, .int .u8 y.d4, .int .u8 y.d5, .int .u8 y.d6, .int .u8 y.d7, .bool y.r]] w fun e w' => e = .returned (.int .i64 0) ∧ (∃ v', IsD w' p v' ([y]) (y.nm + 1)) ∧ Kp [p] w w' := by
  have c1 : ¬ y.nd < 0 := fun e => by unfold sndE at he; rw [if_pos e] at he; cases he
  have c2 : y.ok = true := by
    cases hr : y.ok with
    | true => rfl
    | false => unfold sndE at he; rw [hr, if_neg c1, if_pos rfl] at he; cases he
  have RI := fun w => refRight_any y.i y.n y.d0 y.d1 y.d2 y.d3 y.d4 y.d5 y.d6 y.d7 y.r w
  rw [show rightB y.i y.n [y.d0, y.d1, y.d2, y.d3, y.d4, y.d5, y.d6, y.d7] y.r = true from c2] at RI
  obtain ⟨i0, hi, hz0, hz1, hz2⟩ := info_parts infoR
  have hp := lt_of_heap h.head
  have hx : Below w.heap.size w (w.alloc (.cells #[.int .u16 y.i, .int .i64 y.n, .int .u8 y.d0, .int .u8 y.d1, .int .u8 y.d2, .int .u8 y.d3, .int .u8 y.d4, .int .u8 y.d5, .int .u8 y.d6, .int .u8 y.d7, .bool y.r] 27)) := Below.al (Below.refl _ _) _
  have WW : IntKind.i64.wrap (y.nm + 1) = y.nm + 1 := by rw [IntKind.wrap_i64]; omega
  have HN : Hid (∀ z, Below w.heap.size w z → IsD z p (.slice none 0 0) [] y.nm) := fun z hz => h.next hz
  clear h he c2
  go_enter Try.func23, Try.ntmps23
  go_wp2_with fail
  refine (RI _).mono ?_
  rintro e z ⟨rfl, bz⟩
  have BZ : Below w.heap.size w z := Below.andThen hx bz
  have k0 := (HN.out z BZ).c0
  have k1 := (HN.out z BZ).c1
  have LF := run_loadVar_row (P := Try.prog) z.drew w.heap.size 27 27 #[.int .u16 y.i, .int .i64 y.n, .int .u8 y.d0, .int .u8 y.d1, .int .u8 y.d2, .int .u8 y.d3, .int .u8 y.d4, .int .u8 y.d5, .int .u8 y.d6, .int .u8 y.d7, .bool y.r] (0, 0) _ ((bz.block w.heap.size (by simp)).trans (heap_alloc_last w _)) Try.underlying27 rfl sizeF
  have hfb : z.heap[w.heap.size]? = some (.cells #[.int .u16 y.i, .int .i64 y.n, .int .u8 y.d0, .int .u8 y.d1, .int .u8 y.d2, .int .u8 y.d3, .int .u8 y.d4, .int .u8 y.d5, .int .u8 y.d6, .int .u8 y.d7, .bool y.r] 27 (0, 0)) := (bz.block w.heap.size (by simp)).trans (heap_alloc_last w _)
  have fc0 : z.cell? ⟨w.heap.size, 0, none⟩ = some (.int .u16 y.i) := by rw [cell_of_row z _ 0 _ _ _ hfb]; rfl
  have fc1 : z.cell? ⟨w.heap.size, 1, none⟩ = some (.int .i64 y.n) := by rw [cell_of_row z _ 1 _ _ _ hfb]; rfl
  have fc2 : z.cell? ⟨w.heap.size, 2, none⟩ = some (.int .u8 y.d0) := by rw [cell_of_row z _ 2 _ _ _ hfb]; rfl
  have fc3 : z.cell? ⟨w.heap.size, 3, none⟩ = some (.int .u8 y.d1) := by rw [cell_of_row z _ 3 _ _ _ hfb]; rfl
  have fc4 : z.cell? ⟨w.heap.size, 4, none⟩ = some (.int .u8 y.d2) := by rw [cell_of_row z _ 4 _ _ _ hfb]; rfl
  have fc5 : z.cell? ⟨w.heap.size, 5, none⟩ = some (.int .u8 y.d3) := by rw [cell_of_row z _ 5 _ _ _ hfb]; rfl
  have fc6 : z.cell? ⟨w.heap.size, 6, none⟩ = some (.int .u8 y.d4) := by rw [cell_of_row z _ 6 _ _ _ hfb]; rfl
  have fc7 : z.cell? ⟨w.heap.size, 7, none⟩ = some (.int .u8 y.d5) := by rw [cell_of_row z _ 7 _ _ _ hfb]; rfl
  have fc8 : z.cell? ⟨w.heap.size, 8, none⟩ = some (.int .u8 y.d6) := by rw [cell_of_row z _ 8 _ _ _ hfb]; rfl
  have fc9 : z.cell? ⟨w.heap.size, 9, none⟩ = some (.int .u8 y.d7) := by rw [cell_of_row z _ 9 _ _ _ hfb]; rfl
  have fc10 : z.cell? ⟨w.heap.size, 10, none⟩ = some (.bool y.r) := by rw [cell_of_row z _ 10 _ _ _ hfb]; rfl
  have k1a : ∀ b, (z.alloc b).cell? ⟨p, 1, none⟩ = some (.int .i64 y.nm) := fun b => ((HN.out z BZ).next (Below.al (Below.refl _ _) b)).c1
  have hfa : ∀ b, (z.alloc b).heap[w.heap.size]? = some (.cells #[.int .u16 y.i, .int .i64 y.n, .int .u8 y.d0, .int .u8 y.d1, .int .u8 y.d2, .int .u8 y.d3, .int .u8 y.d4, .int .u8 y.d5, .int .u8 y.d6, .int .u8 y.d7, .bool y.r] 27 (0, 0)) := fun b => (Below.heap_alloc _ _ _ (lt_of_heap hfb)).trans hfb
  have ga0 : ∀ b, (z.alloc b).cell? ⟨w.heap.size, 0, none⟩ = some (.int .u16 y.i) := fun b => by rw [cell_of_row _ _ 0 _ _ _ (hfa b)]; rfl
  have ga1 : ∀ b, (z.alloc b).cell? ⟨w.heap.size, 1, none⟩ = some (.int .i64 y.n) := fun b => by rw [cell_of_row _ _ 1 _ _ _ (hfa b)]; rfl
  have ga2 : ∀ b, (z.alloc b).cell? ⟨w.heap.size, 2, none⟩ = some (.int .u8 y.d0) := fun b => by rw [cell_of_row _ _ 2 _ _ _ (hfa b)]; rfl
  have ga3 : ∀ b, (z.alloc b).cell? ⟨w.heap.size, 3, none⟩ = some (.int .u8 y.d1) := fun b => by rw [cell_of_row _ _ 3 _ _ _ (hfa b)]; rfl
  have ga4 : ∀ b, (z.alloc b).cell? ⟨w.heap.size, 4, none⟩ = some (.int .u8 y.d2) := fun b => by rw [cell_of_row _ _ 4 _ _ _ (hfa b)]; rfl
  have ga5 : ∀ b, (z.alloc b).cell? ⟨w.heap.size, 5, none⟩ = some (.int .u8 y.d3) := fun b => by rw [cell_of_row _ _ 5 _ _ _ (hfa b)]; rfl
  have ga6 : ∀ b, (z.alloc b).cell? ⟨w.heap.size, 6, none⟩ = some (.int .u8 y.d4) := fun b => by rw [cell_of_row _ _ 6 _ _ _ (hfa b)]; rfl
  have ga7 : ∀ b, (z.alloc b).cell? ⟨w.heap.size, 7, none⟩ = some (.int .u8 y.d5) := fun b => by rw [cell_of_row _ _ 7 _ _ _ (hfa b)]; rfl
  have ga8 : ∀ b, (z.alloc b).cell? ⟨w.heap.size, 8, none⟩ = some (.int .u8 y.d6) := fun b => by rw [cell_of_row _ _ 8 _ _ _ (hfa b)]; rfl
  have ga9 : ∀ b, (z.alloc b).cell? ⟨w.heap.size, 9, none⟩ = some (.int .u8 y.d7) := fun b => by rw [cell_of_row _ _ 9 _ _ _ (hfa b)]; rfl
  have ga10 : ∀ b, (z.alloc b).cell? ⟨w.heap.size, 10, none⟩ = some (.bool y.r) := fun b => by rw [cell_of_row _ _ 10 _ _ _ (hfa b)]; rfl
  clear RI bz hx hfb hfa
  go_wp2_with fail
  go_region
  have BS : Below w.heap.size w ((z.alloc (.cells y.A 63)).drew) := Below.drew (Below.al BZ _)
  have SB : ((z.alloc (.cells y.A 63)).drew).heap[z.heap.size]? = some (.cells y.A 63 (0, 0)) := heap_alloc_last z _
  obtain ⟨z1, hz1'⟩ : ∃ z1, Hid (z1 = (z.alloc (.cells y.A 63)).drew) := ⟨_, rfl⟩
  rw [← hz1'.out] at BS SB ⊢
  obtain ⟨sb, hsb⟩ : ∃ sb, Hid (sb = z.heap.size) := ⟨_, rfl⟩
  rw [← hsb.out] at SB ⊢
  have HSB : Hid _ := SB
  have HBS : Hid _ := BS
  clear k0 k1 k1a LF BZ BS SB fc0 ga0 fc1 ga1 fc2 ga2 fc3 ga3 fc4 ga4 fc5 ga5 fc6 ga6 fc7 ga7 fc8 ga8 fc9 ga9 fc10 ga10 hsb hz1'
  go_wp2_with fail
  go_loopw [8] (fun u vr => u = .int .i64 0 ∧ vr = z1) (fun _ _ => 0)
  case atStart => exact ⟨rfl, rfl⟩
  case round =>
    obtain ⟨rfl, rfl⟩ := hrel
    have Bw : Below w.heap.size w wr := HBS.out
    have DW : Below wr.heap.size wr wr.drew := Below.drew (Below.refl _ _)
    have CD : Hid (∀ x, Below wr.drew.heap.size wr.drew x → x.cell? ⟨p, 0, none⟩ = some (.slice none 0 0)) := fun x hx => ((HN.out wr Bw).next (Below.andThen DW hx)).c0
    go_wp2_with fail
    refine wp_region_held_drew (S := fun u => u.cell? ⟨p, 0, none⟩ = some (.slice none 0 0)) (by kernel_rfl) (CD.out _ (Below.refl _ _)) (fun hHeld => ?_)
    refine wpAnyH_take (i := 0) (v := (.int .i64 0)) rfl (by kernel_rfl) (by kernel_rfl) (by kernel_rfl) (fun _ _ _ h => h) (Or.inl ⟨by rfl, ?_⟩) (by assumption) ?_
    · intro w9 hSw
      try dsimp only at hSw
      go_simp
      all_goals try decide
      all_goals try assumption
    try simp only [Act.put, List.getElem_toArray, List.getElem_cons_succ, List.getElem_cons_zero, List.setIfInBounds_toArray, List.set_cons_zero, List.set_cons_succ]
    refine wpAnyH_take (i := 1) (v := (.pointer (some ⟨p, 0, none⟩))) rfl (by kernel_rfl) (by kernel_rfl) (by kernel_rfl) (fun _ _ _ h => h) (Or.inl ⟨by rfl, ?_⟩) (by assumption) ?_
    · intro w9 hSw
      try dsimp only at hSw
      go_simp
      all_goals try decide
      all_goals try assumption
    try simp only [Act.put, List.getElem_toArray, List.getElem_cons_succ, List.getElem_cons_zero, List.setIfInBounds_toArray, List.set_cons_zero, List.set_cons_succ]
    refine wpAnyH_take (i := 2) (v := (.pointer (some ⟨p, 0, none⟩))) rfl (by kernel_rfl) (by kernel_rfl) (by kernel_rfl) (fun _ _ _ h => h) (Or.inl ⟨by rfl, ?_⟩) (by assumption) ?_
    · intro w9 hSw
      try dsimp only at hSw
      go_simp
      all_goals try decide
      all_goals try assumption
    try simp only [Act.put, List.getElem_toArray, List.getElem_cons_succ, List.getElem_cons_zero, List.setIfInBounds_toArray, List.set_cons_zero, List.set_cons_succ]
    refine wpAnyH_take (i := 3) (v := (.pointer (some ⟨p, 0, none⟩))) rfl (by kernel_rfl) (by kernel_rfl) (by kernel_rfl) (fun _ _ _ h => h) (Or.inl ⟨by rfl, ?_⟩) (by assumption) ?_
    · intro w9 hSw
      try dsimp only at hSw
      go_simp
      all_goals try decide
      all_goals try assumption
    try simp only [Act.put, List.getElem_toArray, List.getElem_cons_succ, List.getElem_cons_zero, List.setIfInBounds_toArray, List.set_cons_zero, List.set_cons_succ]
    refine wpAnyH_take (i := 4) (v := (.slice none 0 0)) rfl (by kernel_rfl) (by kernel_rfl) (by kernel_rfl) (fun _ _ _ h => h) (Or.inl ⟨by rfl, ?_⟩) (by assumption) ?_
    · intro w9 hSw
      try dsimp only at hSw
      go_simp
      all_goals try decide
      all_goals try assumption
    try simp only [Act.put, List.getElem_toArray, List.getElem_cons_succ, List.getElem_cons_zero, List.setIfInBounds_toArray, List.set_cons_zero, List.set_cons_succ]
    refine wpAnyH_take (i := 5) (v := (.int .i64 0)) rfl (by kernel_rfl) (by kernel_rfl) (by kernel_rfl) (fun _ _ _ h => h) (Or.inl ⟨by rfl, ?_⟩) (by assumption) ?_
    · intro w9 hSw
      try dsimp only at hSw
      go_simp
      all_goals try decide
      all_goals try assumption
    try simp only [Act.put, List.getElem_toArray, List.getElem_cons_succ, List.getElem_cons_zero, List.setIfInBounds_toArray, List.set_cons_zero, List.set_cons_succ]
    refine wpAnyH_take (i := 6) (v := (.bool false)) rfl (by kernel_rfl) (by kernel_rfl) (by kernel_rfl) (fun _ _ _ h => h) (Or.inl ⟨by rfl, ?_⟩) (by assumption) ?_
    · intro w9 hSw
      try dsimp only at hSw
      go_simp
      all_goals try decide
      all_goals try assumption
    try simp only [Act.put, List.getElem_toArray, List.getElem_cons_succ, List.getElem_cons_zero, List.setIfInBounds_toArray, List.set_cons_zero, List.set_cons_succ]
    refine wpAnyH_take (i := 7) (v := (.bool false)) rfl (by kernel_rfl) (by kernel_rfl) (by kernel_rfl) (fun _ _ _ h => h) (Or.inl ⟨by rfl, ?_⟩) (by assumption) ?_
    · intro w9 hSw
      try dsimp only at hSw
      go_simp
      all_goals try decide
      all_goals try assumption
    try simp only [Act.put, List.getElem_toArray, List.getElem_cons_succ, List.getElem_cons_zero, List.setIfInBounds_toArray, List.set_cons_zero, List.set_cons_succ]
    refine wpAnyH_take (i := 8) (v := undef) rfl (by kernel_rfl) (by kernel_rfl) (by kernel_rfl) (fun _ _ _ h => h) (Or.inr ⟨by rfl, rfl⟩) (by assumption) ?_
    try simp only [Act.put, List.getElem_toArray, List.getElem_cons_succ, List.getElem_cons_zero, List.setIfInBounds_toArray, List.set_cons_zero, List.set_cons_succ]
    refine wpAnyH_take (i := 9) (v := undef) rfl (by kernel_rfl) (by kernel_rfl) (by kernel_rfl) (fun _ _ _ h => h) (Or.inr ⟨by rfl, rfl⟩) (by assumption) ?_
    try simp only [Act.put, List.getElem_toArray, List.getElem_cons_succ, List.getElem_cons_zero, List.setIfInBounds_toArray, List.set_cons_zero, List.set_cons_succ]
    refine wpAnyH_take (i := 10) (v := undef) rfl (by kernel_rfl) (by kernel_rfl) (by kernel_rfl) (fun _ _ _ h => h) (Or.inr ⟨by rfl, rfl⟩) (by assumption) ?_
    try simp only [Act.put, List.getElem_toArray, List.getElem_cons_succ, List.getElem_cons_zero, List.setIfInBounds_toArray, List.set_cons_zero, List.set_cons_succ]
    refine wpAnyH_take (i := 11) (v := undef) rfl (by kernel_rfl) (by kernel_rfl) (by kernel_rfl) (fun _ _ _ h => h) (Or.inr ⟨by rfl, rfl⟩) (by assumption) ?_
    try simp only [Act.put, List.getElem_toArray, List.getElem_cons_succ, List.getElem_cons_zero, List.setIfInBounds_toArray, List.set_cons_zero, List.set_cons_succ]
    refine wpAnyH_take (i := 12) (v := undef) rfl (by kernel_rfl) (by kernel_rfl) (by kernel_rfl) (fun _ _ _ h => h) (Or.inr ⟨by rfl, rfl⟩) (by assumption) ?_
    try simp only [Act.put, List.getElem_toArray, List.getElem_cons_succ, List.getElem_cons_zero, List.setIfInBounds_toArray, List.set_cons_zero, List.set_cons_succ]
    refine wpAnyH_take (i := 13) (v := undef) rfl (by kernel_rfl) (by kernel_rfl) (by kernel_rfl) (fun _ _ _ h => h) (Or.inr ⟨by rfl, rfl⟩) (by assumption) ?_
    try simp only [Act.put, List.getElem_toArray, List.getElem_cons_succ, List.getElem_cons_zero, List.setIfInBounds_toArray, List.set_cons_zero, List.set_cons_succ]
    refine wpAnyH_take (i := 14) (v := undef) rfl (by kernel_rfl) (by kernel_rfl) (by kernel_rfl) (fun _ _ _ h => h) (Or.inr ⟨by rfl, rfl⟩) (by assumption) ?_
    try simp only [Act.put, List.getElem_toArray, List.getElem_cons_succ, List.getElem_cons_zero, List.setIfInBounds_toArray, List.set_cons_zero, List.set_cons_succ]
    refine wpAnyH_take (i := 15) (v := undef) rfl (by kernel_rfl) (by kernel_rfl) (by kernel_rfl) (fun _ _ _ h => h) (Or.inr ⟨by rfl, rfl⟩) (by assumption) ?_
    try simp only [Act.put, List.getElem_toArray, List.getElem_cons_succ, List.getElem_cons_zero, List.setIfInBounds_toArray, List.set_cons_zero, List.set_cons_succ]
    refine wpAnyH_take (i := 16) (v := undef) rfl (by kernel_rfl) (by kernel_rfl) (by kernel_rfl) (fun _ _ _ h => h) (Or.inr ⟨by rfl, rfl⟩) (by assumption) ?_
    try simp only [Act.put, List.getElem_toArray, List.getElem_cons_succ, List.getElem_cons_zero, List.setIfInBounds_toArray, List.set_cons_zero, List.set_cons_succ]
    refine wpAnyH_take (i := 17) (v := (.bool false)) rfl (by kernel_rfl) (by kernel_rfl) (by kernel_rfl) (fun _ _ _ h => h) (Or.inl ⟨by rfl, ?_⟩) (by assumption) ?_
    · intro w9 hSw
      try dsimp only at hSw
      go_simp
      all_goals try decide
      all_goals try assumption
    try simp only [Act.put, List.getElem_toArray, List.getElem_cons_succ, List.getElem_cons_zero, List.setIfInBounds_toArray, List.set_cons_zero, List.set_cons_succ]
    refine wpAnyH_done (by kernel_rfl) ?_ _
    have k0 := CD.out _ (Below.refl _ _)
    have BW : Below w.heap.size w wr.drew := Below.andThen Bw DW
    have hs1 : wr.drew.heap[sb]? = some (.cells y.A 63 (0, 0)) := HSB.out
    have s0 : wr.drew.cell? ⟨sb, 0, none⟩ = some (.int .i64 y.nd) := by rw [cell_of_row wr.drew _ 0 _ _ _ hs1]; rfl
    have s1 : wr.drew.cell? ⟨sb, 1, none⟩ = some (.int .u16 y.i) := by rw [cell_of_row wr.drew _ 1 _ _ _ hs1]; rfl
    have s2 : wr.drew.cell? ⟨sb, 2, none⟩ = some (.int .i64 y.n) := by rw [cell_of_row wr.drew _ 2 _ _ _ hs1]; rfl
    have s3 : wr.drew.cell? ⟨sb, 3, none⟩ = some (.int .u8 y.d0) := by rw [cell_of_row wr.drew _ 3 _ _ _ hs1]; rfl
    have s4 : wr.drew.cell? ⟨sb, 4, none⟩ = some (.int .u8 y.d1) := by rw [cell_of_row wr.drew _ 4 _ _ _ hs1]; rfl
    have s5 : wr.drew.cell? ⟨sb, 5, none⟩ = some (.int .u8 y.d2) := by rw [cell_of_row wr.drew _ 5 _ _ _ hs1]; rfl
    have s6 : wr.drew.cell? ⟨sb, 6, none⟩ = some (.int .u8 y.d3) := by rw [cell_of_row wr.drew _ 6 _ _ _ hs1]; rfl
    have s7 : wr.drew.cell? ⟨sb, 7, none⟩ = some (.int .u8 y.d4) := by rw [cell_of_row wr.drew _ 7 _ _ _ hs1]; rfl
    have s8 : wr.drew.cell? ⟨sb, 8, none⟩ = some (.int .u8 y.d5) := by rw [cell_of_row wr.drew _ 8 _ _ _ hs1]; rfl
    have s9 : wr.drew.cell? ⟨sb, 9, none⟩ = some (.int .u8 y.d6) := by rw [cell_of_row wr.drew _ 9 _ _ _ hs1]; rfl
    have s10 : wr.drew.cell? ⟨sb, 10, none⟩ = some (.int .u8 y.d7) := by rw [cell_of_row wr.drew _ 10 _ _ _ hs1]; rfl
    have s11 : wr.drew.cell? ⟨sb, 11, none⟩ = some (.bool y.r) := by rw [cell_of_row wr.drew _ 11 _ _ _ hs1]; rfl
    have s12 : wr.drew.cell? ⟨sb, 12, none⟩ = some (.int .i64 y.nm) := by rw [cell_of_row wr.drew _ 12 _ _ _ hs1]; rfl
    obtain ⟨vS, hvS⟩ : ∃ vS, Hid (vS = Value.slice none 0 0) := ⟨_, rfl⟩
    have SL1 : ∀ w, (Instr.slice 34 (.slice none 0 0) none (some (.int .i64 0)) none).run Try.prog w = .ok vS w := fun w => by rw [hvS.out]; first | kernel_rfl | go_simp
    have SL2 : ∀ w, (Instr.slice 34 (.slice none 0 0) (some (.int .i64 0)) none none).run Try.prog w = .ok vS w := fun w => by rw [hvS.out]; first | kernel_rfl | go_simp
    have GR2 : Hid (∀ b v2 y2, y2.ownsRow wr.drew.heap.size 63 13 v2 (0 + 1) ([] ++ y.L) → (World.alloc wr.drew b).grownBy y2 (Value.ownBlock (.slice none 0 0)) → ∃ a3 n3 c3, v2 = .slice a3 n3 c3 ∧ y2.cell? ⟨p, 0, none⟩ = some (.slice none 0 0) ∧ y2.frozen? ⟨p, 0, none⟩ = false ∧ (y2.setCell ⟨p, 0, none⟩ v2).cell? ⟨p, 1, none⟩ = some (.int .i64 y.nm) ∧ (y2.setCell ⟨p, 0, none⟩ v2).frozen? ⟨p, 1, none⟩ = false ∧ Hid (y2.ownsRow wr.drew.heap.size 63 13 v2 (0 + 1) ([] ++ y.L)) ∧ Hid ((∃ v', IsD ((y2.setCell ⟨p, 0, none⟩ v2).setCell ⟨p, 1, none⟩ (.int .i64 (y.nm + 1))) p v' [y] (y.nm + 1)) ∧ Kp [p] w ((y2.setCell ⟨p, 0, none⟩ v2).setCell ⟨p, 1, none⟩ (.int .i64 (y.nm + 1))))) := fun b v2 y2 own2 grow2 => by
      have O2 : OwnR y2 wr.drew.heap.size v2 [y] := by
        show y2.ownsRow _ 63 13 _ _ (flat [y])
        rw [flat_one]
        exact own2
      have b2 : Below wr.drew.heap.size wr.drew y2 := (Below.al (Below.refl _ _) _).grown grow2 (by simp) (fun j hj => by simp [Value.ownBlock] at hj)
      have D3 := (HN.out wr.drew BW).next b2
      have D4 : IsD (y2.setCell ⟨p, 0, none⟩ v2) p v2 [y] y.nm := ⟨by rw [heap_setCell_same y2 p 0 _ _ _ D3.head]; rfl, isR_set D3.head (isR_own O2)⟩
      obtain ⟨a3, c3, e3⟩ := ownR_form O2
      exact ⟨a3, _, c3, e3, D3.c0, D3.fz 0, D4.c1, D4.fz 1, own2, ⟨_, D4.set1 _⟩, ((Kp.of (Below.andThen BW b2)).set _ _ (.inl (by simp))).set _ _ (.inl (by simp))⟩
    clear BW Bw DW CD HN HSB HBS hs1
    go_wp2_with (first | (at_builtin; refine app_nn rfl _ _ 34 rfl wr.drew.heap.size 63 i0 13 Try.underlying34 hi rfl (Eq.trans rfl hvS.out) ?_; intro v1 O1 E1) | (at_builtin; refine wpList_append_own _ rfl _ _ 34 rfl wr.drew.heap.size 63 i0 _ 13 48 Try.underlying34 hi hz0 hz1 hz2 rfl (by decide) v1 0 [] rfl (O1.out _) ⟨wr.heap.size, 0, none⟩ 1 1 y.L rfl (Sn.L_len y) (fun j u hj => by show (wr.alloc _).cell? _ = _; rw [Addr.add_lit, Nat.zero_add, World.cell?_alloc_new, ← hj]; simp [Sn.L]) (fun u hu => by simp [Sn.L] at hu; rcases hu with rfl | rfl | rfl | rfl | rfl | rfl | rfl | rfl | rfl | rfl | rfl | rfl | rfl <;> rfl) (by decide) (by decide) (by simp) ?_; intro v2 y2 own2 grow2 _; obtain ⟨a3, n3, c3, rfl, k3, f3, k4, f4, O2, RES⟩ := GR2.out _ v2 y2 own2 (by rw [E1.out] at grow2; exact grow2); clear own2 grow2) | (at_builtin; refine wpList_append_own_none rfl _ _ 34 rfl wr.drew.heap.size 63 i0 13 Try.underlying34 hi _ (0 + 1) ([] ++ y.L) rfl O2.out (Eq.trans rfl hvS.out) ?_))
    go_ret
    exact ⟨rfl, RES.out⟩
#print axioms rsend_nil
end Go.Proofs.Ytndlpjfofjikeaa
