/-
  Send, and which blocks it leaves as they were: all but the bus's own and the row's.
-/
import Derived.Test.YtndlpjfofjikeaaBv4
import Derived.Deep.AppendLies
namespace Go.Proofs.Ytndlpjfofjikeaa
open Go.RowKit

/-- All blocks are as they were but one, and a row. -/
structure Kz (p : Nat) (r : Option Nat) (w w' : World) : Prop where
  os : w'.os = w.os
  tape : w'.tape = w.tape
  output : w'.output = w.output
  size : w.heap.size ≤ w'.heap.size
  block : ∀ k, k < w.heap.size → k ≠ p → some k ≠ r → w'.heap[k]? = w.heap[k]?
theorem Kz.bt {p : Nat} {r : Option Nat} {a b c : World} (h : Below a.heap.size a b) (k : Kz p r b c) : Kz p r a c :=
  ⟨k.os.trans h.os, k.tape.trans h.tape, k.output.trans h.output, Nat.le_trans h.size k.size, fun i hi hp hr => (k.block i (Nat.lt_of_lt_of_le hi h.size) hp hr).trans (h.block i hi)⟩
theorem Kz.set {p : Nat} {r : Option Nat} {a b : World} (h : Kz p r a b) (o : Nat) (v : Value) : Kz p r a (b.setCell ⟨p, o, none⟩ v) := by
  have hs : (b.setCell ⟨p, o, none⟩ v).heap.size = b.heap.size := by simp [World.setCell]
  refine ⟨h.os, h.tape, h.output, by rw [hs]; exact h.size, fun k hk hn hr => ?_⟩
  rw [heap_setCell_other _ _ _ _ (by simpa using hn)]
  exact h.block k hk hn hr
theorem Kz.kp {p g : Nat} {r : Option Nat} {a b c : World} (h : Kz p r a b) (k : Kp [g] b c) (hg : r = some g ∨ a.heap.size ≤ g) : Kz p r a c :=
  ⟨k.os.trans h.os, k.tape.trans h.tape, k.output.trans h.output, Nat.le_trans h.size k.size, fun i hi hp hr => (k.block i (Nat.lt_of_lt_of_le hi h.size) (by
    simp only [List.mem_singleton]
    rintro rfl
    rcases hg with e | e
    · exact hr e.symm
    · omega)).trans (h.block i hi hp hr)⟩
theorem step_append_sentW {ops : Array Oper} {o : Oper} {a : Act} {w : World} {K : Act → World → Prop} {Q : Exit → Act → World → Prop} {E : Prop} (hgd : o.guard = none) (s x : Operand)
    (ho : o.op = .call { callee := .builtin .append, args := #[s, x], argTypes := #[57, 57] }) (base : Nat) (v : Value) (l : List Sn) (hs : a.eval s = v) (hown : IsL w base v l)
    (ad : Addr) (y : Sn) (hx : a.eval x = .slice (some ad) 1 1) (hnews : ∀ j u, y.L[j]? = some u → w.cell? (ad.add j) = some u) (h63 : l.length ≤ 1000000) (hbase : base ≤ w.heap.size)
    (h : ∀ v' w', IsL w' base v' (l ++ [y]) → w.grownBy w' v.ownBlock → (∀ k, v'.ownBlock = some k → v.ownBlock = some k ∨ w.heap.size ≤ k) → K (a.put o.dst v') w') :
    if Region.wanted o (yielded ops a.tmps) = true then Oper.wp Try.prog o a w K Q else E := by
  obtain ⟨i0, hi, hz0, hz1, hz2⟩ := info_parts infoS
  refine step_append_lies (P := Try.prog) w hgd s x 57 ho base 42 i0 _ 13 48 Try.underlying57 hi hz0 hz1 hz2 rfl (by decide) v l.length _ hs hown ad 1 1 y.L hx (Sn.L_len y) hnews (fun u hu => by simp [Sn.L] at hu; rcases hu with rfl | rfl | rfl | rfl | rfl | rfl | rfl | rfl | rfl | rfl | rfl | rfl | rfl <;> rfl) (by decide) (by unfold maxLen; omega) (by omega) hbase _ rfl ?_
  intro g cap w' h1 h2 h3 _
  refine h _ w' ?_ h2 (fun k hk => by
    simp only [Value.ownBlock] at hk
    cases hk
    rcases h3 with e | e
    · exact .inl e
    · exact .inr (by omega))
  show w'.ownsRow base 42 13 _ (l ++ [y]).length (flat (l ++ [y]))
  rw [flat_app, flat_one, List.length_append]
  exact h1

set_option linter.unusedSimpArgs false in
set_option maxHeartbeats 4000000 in
set_option maxRecDepth 100000 in
theorem push_anyW {w : World} {base p : Nat} {v : Value} {l : List Sn} {ct : Int} (h : IsB w base p v l ct) (y : Sn) (hl : l.length ≤ 1000000) (hb : base ≤ w.heap.size) :
    Calls Try.prog 85 #[.pointer (some ⟨p, 0, none⟩), .iface 42 (.agg y.A)] w fun e w' => e = .returned (.tuple #[]) ∧ (∃ v', IsB w' base p v' (l ++ [y]) ct ∧ (∀ k, v'.ownBlock = some k → v.ownBlock = some k ∨ w.heap.size ≤ k)) ∧ Kz p v.ownBlock w w' := by
  have k0 := h.c0
  have k0a : ∀ o, (w.alloc o).cell? ⟨p, 0, none⟩ = some v := fun o => (h.next (Below.al (Below.refl _ _) o)).c0
  have HB : Hid (IsB w base p v l ct) := h
  have hlp := lt_of_heap h.head
  have hlt := h.lt
  have OW : Hid (∀ o, IsL (w.alloc o) base v l) := fun o => (h.next (Below.al (Below.refl _ _) o)).own
  have GR : Hid (∀ (z : World) (v' : Value) (o : Obj), (w.alloc o).drew.grownBy z v.ownBlock → IsL z base v' (l ++ [y]) → z.cell? ⟨p, 0, none⟩ = some v ∧ z.frozen? ⟨p, 0, none⟩ = false ∧ IsB (z.setCell ⟨p, 0, none⟩ v') base p v' (l ++ [y]) ct ∧ Kz p v.ownBlock w (z.setCell ⟨p, 0, none⟩ v')) := fun z v' o hg hv => by
    have ne : ∀ k, k < base → some k ≠ v.ownBlock := fun k hk e => by have := (HB.out.own.lt k e.symm).1; omega
    have hz : IsB z base p v l ct → True := fun _ => trivial
    have hh : z.heap[p]? = some (.cells #[v, .int .i64 ct] 61 (0, 0)) := by
      rw [hg.block p (by simp; omega) (fun e => HB.out.ne' p e.symm rfl)]
      show (w.alloc o).heap[p]? = _
      rw [Below.heap_alloc _ _ _ hlp]
      exact HB.out.head
    refine ⟨by rw [cell_of_row z p 0 _ _ _ hh]; rfl, frozen_of_row z p 0 _ _ hh, ⟨by rw [heap_setCell_same z p 0 _ _ _ hh]; rfl, isL_setp hh hv, trivial⟩, Kz.set (a := w) (b := z) ⟨hg.os, hg.tape, hg.output, by have := hg.size; simp at this; omega, fun k hk hp hr => ?_⟩ _ _⟩
    rw [hg.block k (by simp; omega) hr]
    show (w.alloc o).heap[k]? = _
    rw [Below.heap_alloc _ _ _ hk]
  have TA : ∀ w, (Instr.typeAssert (.iface 42 (.agg y.A)) 20 42 false).run Try.prog w = .ok (.agg y.A) w := fun w => by kernel_rfl
  clear h
  go_enter Try.func85, Try.ntmps85
  go_wp2_with fail
  go_region_law (refine step_append_sentW rfl (.tmp 7) (.tmp 10) rfl base v l (by simp [Act.eval]) (OW.out _) ⟨w.heap.size, 0, none⟩ y (by simp [Act.eval]) (fun j u hj => by show (w.alloc _).cell? _ = _; rw [Addr.add_lit, Nat.zero_add, World.cell?_alloc_new, ← hj]; simp [Sn.L]) hl (by simp; omega) ?_; intro v' z hz hg hat; obtain ⟨g9, c9, rfl⟩ := hz.some (by simp); obtain ⟨q0, q1, q2, q3⟩ := GR.out z _ _ hg hz)
  all_goals
    go_wp2_with fail
    go_end0
    have eL : (l ++ [y]).length = l.length + 1 := by simp
    rw [eL] at q2 q3 hat
    exact ⟨rfl, ⟨_, q2, fun k hk => (hat k hk).imp id (fun e => by simp at e; omega)⟩, q3⟩
#print axioms push_anyW

set_option linter.unusedSimpArgs false in
set_option maxHeartbeats 4000000 in
set_option maxRecDepth 100000 in
theorem heapPush_anyW {w : World} {base p : Nat} {v : Value} {l : List Sn} {y : Sn} {ct : Int} (h : IsB w base p v l ct) (hb : base ≤ w.heap.size) (hl : l.length ≤ 100000) (hh : Heap l l.length) :
    Calls Try.prog 36 #[.iface 69 (.pointer (some ⟨p, 0, none⟩)), .iface 42 (.agg y.A)] w fun e w' => e = .returned (.tuple #[]) ∧ (∃ v' l', (l'.Perm (l ++ [y]) ∧ Heap l' l'.length ∧ (∀ k, v'.ownBlock = some k → v.ownBlock = some k ∨ w.heap.size ≤ k)) ∧ IsB w' base p v' l' ct) ∧ Kz p v.ownBlock w w' := by
  have P1 := push_anyW h y (by omega) hb
  have M1 := meth_push 234 (by decide) p w
  have UO : Hid (UpOk (l ++ [y]) (l.length + 1) l.length) := upOk_push y hh
  clear h hh
  go_enter Try.func36, Try.ntmps36
  go_wp2_with fail
  refine P1.mono ?_
  rintro e z ⟨rfl, ⟨v2, Hz, hat⟩, kz⟩
  clear P1 M1
  obtain ⟨g, cap, rfl⟩ := Hz.own.some (by simp)
  have HAT : Hid (v.ownBlock = some g ∨ w.heap.size ≤ g) := hat g rfl
  clear hat
  have eL : (l ++ [y]).length = l.length + 1 := by simp
  rw [eL] at Hz
  have UPC := up_any Hz eL l.length (by omega) (by omega) UO.out
  have M2 := meth_len 234 (by decide) p z _ Hz.c0
  have HL := len_any (some ⟨g, 0, none⟩) (l.length + 1) cap z
  have GO := Hz.old
  have wl : IntKind.i64.wrap (((l.length + 1 : Nat) : Int) - 1) = (l.length : Int) := by rw [IntKind.wrap_i64]; omega
  obtain ⟨N, hN⟩ : ∃ N, Hid (N = l.length + 1) := ⟨_, rfl⟩
  rw [← hN.out] at UPC M2 HL wl
  clear Hz UO
  go_wp2_with fail
  refine HL.mono ?_
  rintro e z ⟨rfl, rfl⟩
  clear HL M2
  go_wp2_with fail
  refine UPC.mono ?_
  rintro e z2 ⟨rfl, ⟨l', e1, e2, e3, H2⟩, k2⟩
  have RES : Hid (∃ v' l', (l'.Perm (l ++ [y]) ∧ Heap l' l'.length ∧ (∀ k, v'.ownBlock = some k → v.ownBlock = some k ∨ w.heap.size ≤ k)) ∧ IsB z2 base p v' l' ct) := ⟨_, l', ⟨e2, by rw [e1]; exact e3, fun k hk => by simp only [Value.ownBlock] at hk; cases hk; exact HAT.out⟩, H2⟩
  clear UPC H2 e1 e2 e3
  go_wp2_with fail
  go_end0
  exact ⟨rfl, RES.out, kz.kp k2 HAT.out⟩
#print axioms heapPush_anyW

set_option linter.unusedSimpArgs false in
set_option maxHeartbeats 4000000 in
set_option maxRecDepth 100000 in
theorem add_ofK {base p H : Nat} {v : Value} {l : List Sn} {R : Value → List Sn → Prop} {y : Sn} {ct : Int} (hp : ∀ (z : World), IsB z base p v l ct → H ≤ z.heap.size → Calls Try.prog 36 #[.iface 69 (.pointer (some ⟨p, 0, none⟩)), .iface 42 (.agg y.A)] z fun e w' => e = .returned (.tuple #[]) ∧ (∃ v' l', R v' l' ∧ IsB w' base p v' l' ct) ∧ Kz p v.ownBlock z w')
    {w : World} (h : IsB w base p v l ct) (hb : H ≤ w.heap.size) : Calls Try.prog 27 #[.pointer (some ⟨p, 0, none⟩), .agg y.A] w fun e w' => e = .returned (.tuple #[]) ∧ (∃ v' l', R v' l' ∧ IsB w' base p v' l' ct) ∧ Kz p v.ownBlock w w' := by
  have HC := hp (w.alloc (.cells y.A 42)) (h.next (Below.al (Below.refl _ _) _)) (by simp; omega)
  clear h hp
  go_enter Try.func27, Try.ntmps27
  go_wp2_with fail
  refine HC.mono ?_
  rintro e z ⟨rfl, Hz, kz⟩
  have RES : Hid _ := Hz
  clear Hz
  go_wp2_with fail
  go_end0
  exact ⟨rfl, RES.out, Kz.bt (Below.al (Below.refl _ _) _) kz⟩


set_option linter.unusedSimpArgs false in
set_option maxHeartbeats 4000000 in
set_option maxRecDepth 100000 in
theorem send_ofK {base p H : Nat} {v : Value} {l : List Sn} {R : Value → List Sn → Prop} {y : Sn} (hp : ∀ (z : World), IsB z base p v l y.nm → H ≤ z.heap.size → Calls Try.prog 36 #[.iface 69 (.pointer (some ⟨p, 0, none⟩)), .iface 42 (.agg y.A)] z fun e w' => e = .returned (.tuple #[]) ∧ (∃ v' l', R v' l' ∧ IsB w' base p v' l' y.nm) ∧ Kz p v.ownBlock z w')
    {w : World} (h : IsB w base p v l y.nm) (hb : H ≤ w.heap.size) (hn : ¬ y.nd < 0) (ho : Oct [y.d0, y.d1, y.d2, y.d3, y.d4, y.d5, y.d6, y.d7]) (hr : rightB y.i y.n [y.d0, y.d1, y.d2, y.d3, y.d4, y.d5, y.d6, y.d7] y.r = true) (hl : l.length < 512) (hc0 : 0 ≤ y.nm) (hc : y.nm < 1000000) :
    Calls Try.prog 15 #[.pointer (some ⟨p, 0, none⟩), .int .i64 y.nd, .agg #[.int .u16 y.i, .int .i64 y.n, .int .u8 y.d0, .int .u8 y.d1, .int .u8 y.d2, .int .u8 y.d3, .int .u8 y.d4, .int .u8 y.d5, .int .u8 y.d6, .int .u8 y.d7, .bool y.r]] w fun e w' => e = .returned (.int .i64 0) ∧ (∃ v' l', R v' l' ∧ IsB w' base p v' l' (y.nm + 1)) ∧ Kz p v.ownBlock w w' := by
  have RI := fun w => right_any y.i y.n y.d0 y.d1 y.d2 y.d3 y.d4 y.d5 y.d6 y.d7 y.r w ho
  rw [hr] at RI
  have hx : Below w.heap.size w (w.alloc (.cells #[.int .u16 y.i, .int .i64 y.n, .int .u8 y.d0, .int .u8 y.d1, .int .u8 y.d2, .int .u8 y.d3, .int .u8 y.d4, .int .u8 y.d5, .int .u8 y.d6, .int .u8 y.d7, .bool y.r] 27)) := Below.al (Below.refl _ _) _
  have WW : IntKind.i64.wrap (y.nm + 1) = y.nm + 1 := by rw [IntKind.wrap_i64]; omega
  have HN : Hid (∀ z, Below w.heap.size w z → IsB z base p v l y.nm) := fun z hz => h.next hz
  have AD0 : Hid (∀ z, Below w.heap.size w z → H ≤ z.heap.size → Calls Try.prog 27 #[.pointer (some ⟨p, 0, none⟩), .agg y.A] z fun e w' => e = .returned (.tuple #[]) ∧ (∃ v' l', R v' l' ∧ IsB w' base p v' l' y.nm) ∧ Kz p v.ownBlock z w') := fun z hz hbz => add_ofK hp (h.next hz) hbz
  obtain ⟨r, hr9⟩ : ∃ r, Hid (r = v.ownBlock) := ⟨_, rfl⟩
  rw [← hr9.out]
  obtain ⟨a, hv⟩ : ∃ a : Option Addr × Nat, v = .slice a.1 l.length a.2 := by
    rcases h.own.form with ⟨h1, h2⟩ | ⟨g, cap, _, h1, _⟩
    · subst h2; exact ⟨(none, 0), h1⟩
    · exact ⟨(some ⟨g, 0, none⟩, cap), h1⟩
  obtain ⟨a1, c1⟩ := a
  dsimp only at hv
  subst hv
  have hlg : ¬ (512 : Int) ≤ (l.length : Int) := by omega
  clear h hp hr ho hl
  go_enter Try.func15, Try.ntmps15
  go_wp2_with fail
  refine (RI _).mono ?_
  rintro e z0 ⟨rfl, bz0⟩
  have B0 : Below w.heap.size w z0 := Below.andThen hx bz0
  have kz0 : Kp [] _ z0 := Kp.of bz0
  have H0 := HN.out z0 B0
  have k0 := H0.c0
  have k1 := H0.c1
  have L1 := run_loadVar_row (P := Try.prog) z0.drew w.heap.size 27 27 #[.int .u16 y.i, .int .i64 y.n, .int .u8 y.d0, .int .u8 y.d1, .int .u8 y.d2, .int .u8 y.d3, .int .u8 y.d4, .int .u8 y.d5, .int .u8 y.d6, .int .u8 y.d7, .bool y.r] (0, 0) _ ((bz0.block w.heap.size (by simp)).trans (heap_alloc_last w _)) Try.underlying27 rfl sizeF
  have L2 : (loadVar 2 ⟨p, 1, none⟩).run Try.prog z0.drew = .ok (.int .i64 y.nm) z0.drew := by
    have := H0.c1
    simp [go_sem, this]
  have HL := len_any a1 l.length c1 z0
  have BD : Below w.heap.size w z0.drew := Below.drew B0
  have AD := AD0.out z0.drew BD (by have := B0.size; show H ≤ z0.heap.size; omega)
  have KA : Hid (Below w.heap.size w z0.drew) := BD
  clear H0 HN AD0 bz0 kz0 B0 BD hx RI
  go_wp2_with fail
  refine HL.mono ?_
  rintro e z0 ⟨rfl, rfl⟩
  clear HL
  go_wp2_with fail
  refine wp_region_held_drew (S := fun _ => True) (by kernel_rfl) trivial (fun hHeld => ?_)
  refine wpAnyH_take (i := 0) (v := (.pointer (some ⟨p, 0, none⟩))) rfl (by kernel_rfl) (by kernel_rfl) (by kernel_rfl) (fun _ _ _ h => h) (Or.inl ⟨by rfl, ?_⟩) (by assumption) ?_
  · intro w9 hSw
    try dsimp only at hSw
    go_simp
    all_goals try decide
    all_goals try assumption
  try simp only [Act.put, List.getElem_toArray, List.getElem_cons_succ, List.getElem_cons_zero, List.setIfInBounds_toArray, List.set_cons_zero, List.set_cons_succ]
  refine wpAnyH_take (i := 1) (v := (.pointer (some ⟨p, 0, none⟩))) rfl (by kernel_rfl) (by kernel_rfl) (by kernel_rfl) (fun _ _ _ h => h) (Or.inl ⟨by rfl, ?_⟩) (by assumption) ?_
  · intro w9 hSw
    try dsimp only at hSw
    go_simp
    all_goals try decide
    all_goals try assumption
  try simp only [Act.put, List.getElem_toArray, List.getElem_cons_succ, List.getElem_cons_zero, List.setIfInBounds_toArray, List.set_cons_zero, List.set_cons_succ]
  refine wpAnyH_take (i := 2) (v := (.pointer (some ⟨p, 0, none⟩))) rfl (by kernel_rfl) (by kernel_rfl) (by kernel_rfl) (fun _ _ _ h => h) (Or.inl ⟨by rfl, ?_⟩) (by assumption) ?_
  · intro w9 hSw
    try dsimp only at hSw
    go_simp
    all_goals try decide
    all_goals try assumption
  try simp only [Act.put, List.getElem_toArray, List.getElem_cons_succ, List.getElem_cons_zero, List.setIfInBounds_toArray, List.set_cons_zero, List.set_cons_succ]
  refine wpAnyH_take (i := 3) (v := (.int .i64 y.nd)) rfl (by kernel_rfl) (by kernel_rfl) (by kernel_rfl) (fun _ _ _ h => h) (Or.inl ⟨by rfl, ?_⟩) (by assumption) ?_
  · intro w9 hSw
    try dsimp only at hSw
    go_simp
    all_goals try decide
    all_goals try assumption
  try simp only [Act.put, List.getElem_toArray, List.getElem_cons_succ, List.getElem_cons_zero, List.setIfInBounds_toArray, List.set_cons_zero, List.set_cons_succ]
  refine wpAnyH_take (i := 5) (v := (.pointer (some ⟨p, 0, none⟩))) rfl (by kernel_rfl) (by kernel_rfl) (by kernel_rfl) (fun _ _ _ h => h) (Or.inl ⟨by rfl, ?_⟩) (by assumption) ?_
  · intro w9 hSw
    try dsimp only at hSw
    go_simp
    all_goals try decide
    all_goals try assumption
  try simp only [Act.put, List.getElem_toArray, List.getElem_cons_succ, List.getElem_cons_zero, List.setIfInBounds_toArray, List.set_cons_zero, List.set_cons_succ]
  refine wpAnyH_take (i := 6) (v := (.pointer (some ⟨p, 0, none⟩))) rfl (by kernel_rfl) (by kernel_rfl) (by kernel_rfl) (fun _ _ _ h => h) (Or.inl ⟨by rfl, ?_⟩) (by assumption) ?_
  · intro w9 hSw
    try dsimp only at hSw
    go_simp
    all_goals try decide
    all_goals try assumption
  try simp only [Act.put, List.getElem_toArray, List.getElem_cons_succ, List.getElem_cons_zero, List.setIfInBounds_toArray, List.set_cons_zero, List.set_cons_succ]
  refine wpAnyH_take (i := 7) (v := (.pointer (some ⟨p, 1, none⟩))) rfl (by kernel_rfl) (by kernel_rfl) (by kernel_rfl) (fun _ _ _ h => h) (Or.inl ⟨by rfl, ?_⟩) (by assumption) ?_
  · intro w9 hSw
    try dsimp only at hSw
    go_simp
    all_goals try decide
    all_goals try assumption
  try simp only [Act.put, List.getElem_toArray, List.getElem_cons_succ, List.getElem_cons_zero, List.setIfInBounds_toArray, List.set_cons_zero, List.set_cons_succ]
  refine wpAnyH_ready (rs := [4, 8]) (by kernel_rfl) (by simp) ?_
  refine AllReadyH.cons rfl (fun K' hK => ?_) (AllReadyH.cons rfl (fun K' hK => ?_) AllReadyH.nil)
  · rw [if_pos (by rfl)]
    simp only [List.getElem_toArray, List.getElem_cons_succ, List.getElem_cons_zero]
    refine wp_load_by 27 (.tmp 5) rfl _ _ rfl L1 ?_
    refine hK.out _ _ trivial (fun hHeld => ?_)
    clear hK K'
    try simp only [Act.put, List.getElem_toArray, List.getElem_cons_succ, List.getElem_cons_zero, List.setIfInBounds_toArray, List.set_cons_zero, List.set_cons_succ]
    refine wpAnyH_ready (rs := [8]) (by kernel_rfl) (by simp) ?_
    refine AllReadyH.cons rfl (fun K' hK => ?_) AllReadyH.nil
    rw [if_pos (by rfl)]
    simp only [List.getElem_toArray, List.getElem_cons_succ, List.getElem_cons_zero]
    refine wp_load_by 2 (.tmp 32) rfl _ _ rfl L2 ?_
    refine hK.out _ _ trivial (fun hHeld => ?_)
    clear hK K'
    try simp only [Act.put, List.getElem_toArray, List.getElem_cons_succ, List.getElem_cons_zero, List.setIfInBounds_toArray, List.set_cons_zero, List.set_cons_succ]
    refine wpAnyH_take (i := 9) (v := (.agg y.A)) rfl (by kernel_rfl) (by kernel_rfl) (by kernel_rfl) (fun _ _ _ h => h) (Or.inl ⟨by rfl, ?_⟩) (by assumption) ?_
    · intro w9 hSw
      try dsimp only at hSw
      go_simp
      all_goals try decide
      all_goals try assumption
    try simp only [Act.put, List.getElem_toArray, List.getElem_cons_succ, List.getElem_cons_zero, List.setIfInBounds_toArray, List.set_cons_zero, List.set_cons_succ]
    refine wpAnyH_ready (rs := [10]) (by kernel_rfl) (by simp) ?_
    refine AllReadyH.cons rfl (fun K' hK => ?_) AllReadyH.nil
    rw [if_pos (by rfl)]
    simp only [List.getElem_toArray, List.getElem_cons_succ, List.getElem_cons_zero]
    go_wp2_with fail
    refine AD.mono ?_
    rintro e z ⟨rfl, ⟨v2, l', hR, Hz⟩, kz⟩
    try go_wp2_with fail
    refine hK.out _ _ trivial (fun hHeld => ?_)
    clear hK K'
    try simp only [Act.put, List.getElem_toArray, List.getElem_cons_succ, List.getElem_cons_zero, List.setIfInBounds_toArray, List.set_cons_zero, List.set_cons_succ]
    refine wpAnyH_done (by kernel_rfl) ?_ _
    have k1 := Hz.c1
    have f1 := Hz.fz 1
    have RES : Hid (IsB (z.setCell ⟨p, 1, none⟩ (.int .i64 (y.nm + 1))) base p v2 l' (y.nm + 1) ∧ Kz p r w (z.setCell ⟨p, 1, none⟩ (.int .i64 (y.nm + 1)))) := ⟨Hz.set1 _, by rw [hr9.out]; exact (Kz.bt KA.out kz).set _ _⟩
    clear Hz kz
    go_wp2_with fail
    go_ret
    exact ⟨rfl, ⟨_, l', hR, RES.out.1⟩, RES.out.2⟩
  · rw [if_pos (by rfl)]
    simp only [List.getElem_toArray, List.getElem_cons_succ, List.getElem_cons_zero]
    refine wp_load_by 2 (.tmp 32) rfl _ _ rfl L2 ?_
    refine hK.out _ _ trivial (fun hHeld => ?_)
    clear hK K'
    try simp only [Act.put, List.getElem_toArray, List.getElem_cons_succ, List.getElem_cons_zero, List.setIfInBounds_toArray, List.set_cons_zero, List.set_cons_succ]
    refine wpAnyH_ready (rs := [4]) (by kernel_rfl) (by simp) ?_
    refine AllReadyH.cons rfl (fun K' hK => ?_) AllReadyH.nil
    rw [if_pos (by rfl)]
    simp only [List.getElem_toArray, List.getElem_cons_succ, List.getElem_cons_zero]
    refine wp_load_by 27 (.tmp 5) rfl _ _ rfl L1 ?_
    refine hK.out _ _ trivial (fun hHeld => ?_)
    clear hK K'
    try simp only [Act.put, List.getElem_toArray, List.getElem_cons_succ, List.getElem_cons_zero, List.setIfInBounds_toArray, List.set_cons_zero, List.set_cons_succ]
    refine wpAnyH_take (i := 9) (v := (.agg y.A)) rfl (by kernel_rfl) (by kernel_rfl) (by kernel_rfl) (fun _ _ _ h => h) (Or.inl ⟨by rfl, ?_⟩) (by assumption) ?_
    · intro w9 hSw
      try dsimp only at hSw
      go_simp
      all_goals try decide
      all_goals try assumption
    try simp only [Act.put, List.getElem_toArray, List.getElem_cons_succ, List.getElem_cons_zero, List.setIfInBounds_toArray, List.set_cons_zero, List.set_cons_succ]
    refine wpAnyH_ready (rs := [10]) (by kernel_rfl) (by simp) ?_
    refine AllReadyH.cons rfl (fun K' hK => ?_) AllReadyH.nil
    rw [if_pos (by rfl)]
    simp only [List.getElem_toArray, List.getElem_cons_succ, List.getElem_cons_zero]
    go_wp2_with fail
    refine AD.mono ?_
    rintro e z ⟨rfl, ⟨v2, l', hR, Hz⟩, kz⟩
    try go_wp2_with fail
    refine hK.out _ _ trivial (fun hHeld => ?_)
    clear hK K'
    try simp only [Act.put, List.getElem_toArray, List.getElem_cons_succ, List.getElem_cons_zero, List.setIfInBounds_toArray, List.set_cons_zero, List.set_cons_succ]
    refine wpAnyH_done (by kernel_rfl) ?_ _
    have k1 := Hz.c1
    have f1 := Hz.fz 1
    have RES : Hid (IsB (z.setCell ⟨p, 1, none⟩ (.int .i64 (y.nm + 1))) base p v2 l' (y.nm + 1) ∧ Kz p r w (z.setCell ⟨p, 1, none⟩ (.int .i64 (y.nm + 1)))) := ⟨Hz.set1 _, by rw [hr9.out]; exact (Kz.bt KA.out kz).set _ _⟩
    clear Hz kz
    go_wp2_with fail
    go_ret
    exact ⟨rfl, ⟨_, l', hR, RES.out.1⟩, RES.out.2⟩
#print axioms send_ofK
theorem send_okW {w : World} {base p : Nat} {v : Value} {l : List Sn} {y : Sn} (h : IsB w base p v l y.nm) (hb : base ≤ w.heap.size) (ho : Oct [y.d0, y.d1, y.d2, y.d3, y.d4, y.d5, y.d6, y.d7]) (he : sndE y.nd y.ok l.length = 0) (hh : Heap l l.length) (hc0 : 0 ≤ y.nm) (hc : y.nm < 1000000) :
    Calls Try.prog 15 #[.pointer (some ⟨p, 0, none⟩), .int .i64 y.nd, .agg #[.int .u16 y.i, .int .i64 y.n, .int .u8 y.d0, .int .u8 y.d1, .int .u8 y.d2, .int .u8 y.d3, .int .u8 y.d4, .int .u8 y.d5, .int .u8 y.d6, .int .u8 y.d7, .bool y.r]] w fun e w' => e = .returned (.int .i64 0) ∧ (∃ v' l', (l'.Perm (l ++ [y]) ∧ Heap l' l'.length ∧ (∀ k, v'.ownBlock = some k → v.ownBlock = some k ∨ w.heap.size ≤ k)) ∧ IsB w' base p v' l' (y.nm + 1)) ∧ Kz p v.ownBlock w w' := by
  have c1 : ¬ y.nd < 0 := fun e => by unfold sndE at he; rw [if_pos e] at he; cases he
  have c2 : y.ok = true := by
    cases hr : y.ok with
    | true => rfl
    | false => unfold sndE at he; rw [hr, if_neg c1, if_pos rfl] at he; cases he
  have c3 : l.length < 512 := by
    apply Classical.byContradiction
    intro e
    unfold sndE at he
    rw [c2, if_neg c1, if_neg (by decide), if_pos (by omega)] at he
    cases he
  refine send_ofK (H := w.heap.size) (R := fun v' l' => l'.Perm (l ++ [y]) ∧ Heap l' l'.length ∧ (∀ k, v'.ownBlock = some k → v.ownBlock = some k ∨ w.heap.size ≤ k)) (fun z hz hbz => (heapPush_anyW hz (Nat.le_trans hb hbz) (by omega) hh).mono (fun e w' hq => ?_)) h (Nat.le_refl _) c1 ho c2 c3 hc0 hc
  obtain ⟨q1, ⟨v', l', ⟨q2, q3, q4⟩, q5⟩, q6⟩ := hq
  exact ⟨q1, ⟨v', l', ⟨q2, q3, fun k hk => (q4 k hk).imp id (fun e => Nat.le_trans hbz e)⟩, q5⟩, q6⟩
#print axioms send_okW
end Go.Proofs.Ytndlpjfofjikeaa
