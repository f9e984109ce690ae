/-
  A bus in memory; the walks of Push and Pop of its list.
-/
import Derived.Test.YtndlpjfofjikeaaBn
import Derived.Deep.RegionLaw
namespace Go.Proofs.Ytndlpjfofjikeaa
open Go.RowKit

theorem IsL.some {w : World} {base : Nat} {v : Value} {l : List Sn} (h : IsL w base v l) (hl : l ≠ []) : ∃ g cap, v = .slice (some ⟨g, 0, none⟩) l.length cap := by
  rcases h.form with ⟨_, h2⟩ | ⟨g, cap, _, hv, _⟩
  · exact absurd h2 hl
  · exact ⟨g, cap, hv⟩
/-- A bus: its block, its list, how many were sent. -/
structure IsB (w : World) (base p : Nat) (v : Value) (l : List Sn) (ct : Int) : Prop where
  head : w.heap[p]? = some (.cells #[v, .int .i64 ct] 61 (0, 0))
  own : IsL w base v l
  lt : True
theorem IsB.c0 {w : World} {base p : Nat} {v : Value} {l : List Sn} {ct : Int} (h : IsB w base p v l ct) : w.cell? ⟨p, 0, none⟩ = some v := by rw [cell_of_row w p 0 _ _ _ h.head]; rfl
theorem IsB.c1 {w : World} {base p : Nat} {v : Value} {l : List Sn} {ct : Int} (h : IsB w base p v l ct) : w.cell? ⟨p, 1, none⟩ = some (.int .i64 ct) := by rw [cell_of_row w p 1 _ _ _ h.head]; rfl
theorem IsB.fz {w : World} {base p : Nat} {v : Value} {l : List Sn} {ct : Int} (h : IsB w base p v l ct) (j : Nat) : w.frozen? ⟨p, j, none⟩ = false := frozen_of_row w p j _ _ h.head
theorem IsB.next {w w' : World} {base p : Nat} {v : Value} {l : List Sn} {ct : Int} (h : IsB w base p v l ct) (k : Below w.heap.size w w') : IsB w' base p v l ct :=
  ⟨by rw [k.block p (lt_of_heap h.head)]; exact h.head, h.own.kept (row := none) ⟨k.os, k.tape, k.output, k.size, fun i hi _ => k.block i hi⟩ (by cases v.ownBlock with | none => exact .inl rfl | some b => exact .inr (by simp)), h.lt⟩
theorem isL_setp {w : World} {base p o : Nat} {u v : Value} {A : Array Value} {l : List Sn} (hp : w.heap[p]? = some (.cells A 61 (0, 0))) (h : IsL w base v l) : IsL (w.setCell ⟨p, o, none⟩ u) base v l := by
  refine ⟨h.1, ?_⟩
  rcases h.2 with ⟨h1, h2⟩ | ⟨g, cap, cur, hv, hb, hh, r⟩
  · exact .inl ⟨h1, h2⟩
  · refine .inr ⟨g, cap, cur, hv, hb, (heap_setCell_other _ _ _ _ ?_).trans hh, r⟩
    show ¬ g = p
    rintro rfl
    rw [hp] at hh
    simp at hh
theorem IsB.ne' {w : World} {base p : Nat} {v : Value} {l : List Sn} {ct : Int} (h : IsB w base p v l ct) (k : Nat) (hk : v.ownBlock = some k) : k ≠ p := by
  rcases h.own.2 with ⟨h1, _⟩ | ⟨g, cap, cur, hv, _, hh, _⟩
  · rw [h1] at hk; cases hk
  · rw [hv] at hk
    simp only [Value.ownBlock] at hk
    cases hk
    rintro rfl
    rw [h.head] at hh
    simp at hh
theorem IsB.ne {w : World} {base p g n cap : Nat} {l : List Sn} {ct : Int} (h : IsB w base p (.slice (some ⟨g, 0, none⟩) n cap) l ct) : p ≠ g := fun e => h.ne' g rfl e.symm
theorem IsB.set0 {w : World} {base p : Nat} {v v' : Value} {l l' : List Sn} {ct : Int} (h : IsB w base p v l ct) (h' : IsL w base v' l') : IsB (w.setCell ⟨p, 0, none⟩ v') base p v' l' ct :=
  ⟨by rw [heap_setCell_same w p 0 _ _ _ h.head]; rfl, isL_setp h.head h', trivial⟩
theorem IsB.set1 {w : World} {base p : Nat} {v : Value} {l : List Sn} {ct : Int} (h : IsB w base p v l ct) (x : Int) : IsB (w.setCell ⟨p, 1, none⟩ (.int .i64 x)) base p v l x :=
  ⟨by rw [heap_setCell_same w p 1 _ _ _ h.head]; rfl, isL_setp h.head h.own, trivial⟩
/-- Blocks below the list's are as they were, but the bus's own. -/
structure Ko (p base : Nat) (w w' : World) : Prop where
  os : w'.os = w.os
  tape : w'.tape = w.tape
  output : w'.output = w.output
  size : w.heap.size ≤ w'.heap.size
  block : ∀ k, k < base → k < w.heap.size → k ≠ p → w'.heap[k]? = w.heap[k]?
theorem Ko.refl (p base : Nat) (w : World) : Ko p base w w := ⟨rfl, rfl, rfl, Nat.le_refl _, fun _ _ _ _ => rfl⟩
theorem Ko.trans {p base : Nat} {a b c : World} (h : Ko p base a b) (k : Ko p base b c) : Ko p base a c :=
  ⟨k.os.trans h.os, k.tape.trans h.tape, k.output.trans h.output, Nat.le_trans h.size k.size, fun i hb hi hp => (k.block i hb (Nat.lt_of_lt_of_le hi h.size) hp).trans (h.block i hb hi hp)⟩
theorem Ko.ofKp {p base : Nat} {S : List Nat} {a b : World} (h : Kp S a b) (hs : ∀ i ∈ S, i = p ∨ base ≤ i) : Ko p base a b :=
  ⟨h.os, h.tape, h.output, h.size, fun i hb hi hp => h.block i hi (fun hm => by rcases hs i hm with e | e; exact hp e; omega)⟩
theorem Ko.of {p base : Nat} {a b : World} (h : Below a.heap.size a b) : Ko p base a b := ⟨h.os, h.tape, h.output, h.size, fun i _ hi _ => h.block i hi⟩
theorem Ko.below {p base N : Nat} {a b c : World} (h : Below N a b) (k : Ko p base b c) (hN : N ≤ b.heap.size) (hp : N ≤ p) (hb : N ≤ base) : Below N a c :=
  ⟨k.os.trans h.os, k.tape.trans h.tape, k.output.trans h.output, Nat.le_trans h.size k.size, fun i hi => (k.block i (by omega) (by omega) (by omega)).trans (h.block i hi)⟩
theorem Ko.set {p base : Nat} {a b : World} (h : Ko p base a b) (o : Nat) (v : Value) : Ko p base a (b.setCell ⟨p, o, none⟩ v) := by
  have hs : (b.setCell ⟨p, o, none⟩ v).heap.size = b.heap.size := by simp [World.setCell]
  refine ⟨h.os, h.tape, h.output, by rw [hs]; exact h.size, fun k hb hk hn => ?_⟩
  rw [heap_setCell_other _ _ _ _ (by simpa using hn)]
  exact h.block k hb hk hn
theorem infoS : (Try.prog.info? 42).map (fun i => (i.zero, i.size, i.bytes)) = some (some (.agg #[.int .i64 0, .int .u16 0, .int .i64 0, .int .u8 0, .int .u8 0, .int .u8 0, .int .u8 0, .int .u8 0, .int .u8 0, .int .u8 0, .int .u8 0, .bool false, .int .i64 0]), 13, 48) := by kernel_rfl
/-- One put behind those that are the list's own, as one step of a region that draws its order. -/
theorem step_append_sent {ops : Array Oper} {o : Oper} {a : Act} {w : World} {K : Act → World → Prop} {Q : Exit → Act → World → Prop} {E : Prop} (hgd : o.guard = none) (s x : Operand)
    (ho : o.op = .call { callee := .builtin .append, args := #[s, x], argTypes := #[57, 57] }) (base : Nat) (v : Value) (l : List Sn) (hs : a.eval s = v) (hown : IsL w base v l)
    (ad : Addr) (y : Sn) (hx : a.eval x = .slice (some ad) 1 1) (hnews : ∀ j u, y.L[j]? = some u → w.cell? (ad.add j) = some u) (h63 : l.length ≤ 1000000) (hbase : base ≤ w.heap.size)
    (h : ∀ v' w', IsL w' base v' (l ++ [y]) → w.grownBy w' v.ownBlock → K (a.put o.dst v') w') :
    if Region.wanted o (yielded ops a.tmps) = true then Oper.wp Try.prog o a w K Q else E := by
  have hw : Region.wanted o (yielded ops a.tmps) = true := by simp [Region.wanted, hgd]
  rw [if_pos hw]
  obtain ⟨i0, hi, hz0, hz1, hz2⟩ := info_parts infoS
  refine wp_append_own (P := Try.prog) w s x 57 ho base 42 i0 _ 13 48 Try.underlying57 hi hz0 hz1 hz2 rfl (by decide) v l.length _ hs hown ad 1 1 y.L hx (Sn.L_len y) hnews (fun u hu => by simp [Sn.L] at hu; rcases hu with rfl | rfl | rfl | rfl | rfl | rfl | rfl | rfl | rfl | rfl | rfl | rfl | rfl <;> rfl) (by unfold maxLen; omega) (by omega) hbase ?_
  intro v' w' h1 h2 _
  refine h v' w' ?_ h2
  show w'.ownsRow base 42 13 v' (l ++ [y]).length (flat (l ++ [y]))
  rw [flat_app, flat_one, List.length_append]
  exact h1

set_option linter.unusedSimpArgs false in
set_option maxHeartbeats 4000000 in
set_option maxRecDepth 100000 in
theorem push_any {w : World} {base p : Nat} {v : Value} {l : List Sn} {ct : Int} (h : IsB w base p v l ct) (y : Sn) (hl : l.length ≤ 1000000) (hb : base ≤ w.heap.size) :
    Calls Try.prog 85 #[.pointer (some ⟨p, 0, none⟩), .iface 42 (.agg y.A)] w fun e w' => e = .returned (.tuple #[]) ∧ (∃ v', IsB w' base p v' (l ++ [y]) ct) ∧ Ko p base w w' := by
  have k0 := h.c0
  have k0a : ∀ o, (w.alloc o).cell? ⟨p, 0, none⟩ = some v := fun o => (h.next (Below.al (Below.refl _ _) o)).c0
  have HB : Hid (IsB w base p v l ct) := h
  have hlp := lt_of_heap h.head
  have hlt := h.lt
  have OW : Hid (∀ o, IsL (w.alloc o) base v l) := fun o => (h.next (Below.al (Below.refl _ _) o)).own
  have GR : Hid (∀ (z : World) (v' : Value) (o : Obj), (w.alloc o).drew.grownBy z v.ownBlock → IsL z base v' (l ++ [y]) → z.cell? ⟨p, 0, none⟩ = some v ∧ z.frozen? ⟨p, 0, none⟩ = false ∧ IsB (z.setCell ⟨p, 0, none⟩ v') base p v' (l ++ [y]) ct ∧ Ko p base w (z.setCell ⟨p, 0, none⟩ v')) := fun z v' o hg hv => by
    have ne : ∀ k, k < base → some k ≠ v.ownBlock := fun k hk e => by have := (HB.out.own.lt k e.symm).1; omega
    have hz : IsB z base p v l ct → True := fun _ => trivial
    have hh : z.heap[p]? = some (.cells #[v, .int .i64 ct] 61 (0, 0)) := by
      rw [hg.block p (by simp; omega) (fun e => HB.out.ne' p e.symm rfl)]
      show (w.alloc o).heap[p]? = _
      rw [Below.heap_alloc _ _ _ hlp]
      exact HB.out.head
    refine ⟨by rw [cell_of_row z p 0 _ _ _ hh]; rfl, frozen_of_row z p 0 _ _ hh, ⟨by rw [heap_setCell_same z p 0 _ _ _ hh]; rfl, isL_setp hh hv, trivial⟩, Ko.set (a := w) (b := z) ⟨hg.os, hg.tape, hg.output, by have := hg.size; simp at this; omega, fun k hb hk hp => ?_⟩ _ _⟩
    rw [hg.block k (by simp; omega) (ne k hb)]
    show (w.alloc o).heap[k]? = _
    rw [Below.heap_alloc _ _ _ hk]
  have TA : ∀ w, (Instr.typeAssert (.iface 42 (.agg y.A)) 20 42 false).run Try.prog w = .ok (.agg y.A) w := fun w => by kernel_rfl
  clear h
  go_enter Try.func85, Try.ntmps85
  go_wp2_with fail
  go_region_law (refine step_append_sent rfl (.tmp 7) (.tmp 10) rfl base v l (by simp [Act.eval]) (OW.out _) ⟨w.heap.size, 0, none⟩ y (by simp [Act.eval]) (fun j u hj => by show (w.alloc _).cell? _ = _; rw [Addr.add_lit, Nat.zero_add, World.cell?_alloc_new, ← hj]; simp [Sn.L]) hl (by simp; omega) ?_; intro v' z hz hg; obtain ⟨g9, c9, rfl⟩ := hz.some (by simp); obtain ⟨q0, q1, q2, q3⟩ := GR.out z _ _ hg hz)
  all_goals
    go_wp2_with fail
    go_end0
    have eL : (l ++ [y]).length = l.length + 1 := by simp
    rw [eL] at q2 q3
    exact ⟨rfl, ⟨_, q2⟩, q3⟩
#print axioms push_any

set_option linter.unusedSimpArgs false in
set_option maxHeartbeats 4000000 in
set_option maxRecDepth 100000 in
theorem pop_any {w : World} {base p g cap : Nat} {l : List Sn} {x : Sn} {ct : Int} (h : IsB w base p (.slice (some ⟨g, 0, none⟩) (l.length + 1) cap) (l ++ [x]) ct) (hl : l.length ≤ 1000000) :
    Calls Try.prog 84 #[.pointer (some ⟨p, 0, none⟩)] w fun e w' => e = .returned (.iface 42 (.agg x.A)) ∧ IsB w' base p (.slice (some ⟨g, 0, none⟩) l.length cap) l ct ∧ Kp [p] w w' := by
  have eL : (l ++ [x]).length = l.length + 1 := by simp
  rw [← eL] at h
  have hcap : l.length + 1 ≤ cap := by
    rcases h.own.form with ⟨h1, _⟩ | ⟨g', cap', _, hv, _, _, hn, _⟩
    · cases h1
    · cases hv; rw [← eL]; exact hn
  have LD := h.own.load l.length x (by simp)
  have k0 := h.c0
  have f0 := h.fz 0
  rw [eL] at k0
  have ST := run_storeVar_new (P := Try.prog) w 42 #[.int .i64 0, .int .u16 0, .int .i64 0, .int .u8 0, .int .u8 0, .int .u8 0, .int .u8 0, .int .u8 0, .int .u8 0, .int .u8 0, .int .u8 0, .bool false, .int .i64 0] x.A size42 rfl (by simp [Value.oneCell'])
  have hN := fun o => h.next (Below.al (Below.refl w.heap.size w) o)
  have k0a := fun o => (hN o).c0
  have f0a := fun o => (hN o).fz 0
  simp only [eL] at k0a
  have we : IntKind.i64.wrap (((l.length + 1 : Nat) : Int) - 1) = (l.length : Int) := by rw [IntKind.wrap_i64]; omega
  have SLI : ∀ w, (Instr.slice 57 (.slice (some ⟨g, 0, none⟩) (l.length + 1) cap) none (some (.int .i64 (l.length : Int))) none).run Try.prog w = .ok (.slice (some ⟨g, 0, none⟩) l.length cap) w := fun w => by
    have c1 : (0 : Int) ≤ (l.length : Int) := by omega
    have c2 : ¬ (cap : Int) < (l.length : Int) := by omega
    obtain ⟨i0, hi, hz0, hz1, hz2⟩ := info_parts infoS
    have c3 : l.length ≤ cap := by omega
    clear we k0 k0a f0 f0a LD ST
    go_simp
    all_goals try omega
  have RES : Hid (∀ o, IsB ((w.alloc o).setCell ⟨p, 0, none⟩ (.slice (some ⟨g, 0, none⟩) l.length cap)) base p (.slice (some ⟨g, 0, none⟩) l.length cap) l ct ∧ Kp [p] w ((w.alloc o).setCell ⟨p, 0, none⟩ (.slice (some ⟨g, 0, none⟩) l.length cap))) := fun o => by
    refine ⟨(hN o).set0 ?_, (Kp.al (Kp.refl _ _) o).set _ _ (.inl (by simp))⟩
    have := (hN o).own
    unfold IsL at this
    rw [flat_app, flat_one, eL] at this
    exact ownsRow_pop (flat_len l) this
  have nb : p ≠ w.heap.size := by have := lt_of_heap h.head; omega
  have xs : ∀ (o : Nat) (u v : Value), (w.alloc (.cells x.A 42)).cell? ⟨w.heap.size, o, none⟩ = some u → ((w.alloc (.cells x.A 42)).setCell ⟨p, 0, none⟩ v).cell? ⟨w.heap.size, o, none⟩ = some u := fun o u v hu => by rw [World.cell?_setCell_other _ _ _ _ (by intro e; injection e with e1; exact nb e1)]; exact hu
  have x0 : ∀ v, ((w.alloc (.cells x.A 42)).setCell ⟨p, 0, none⟩ v).cell? ⟨w.heap.size, 0, none⟩ = some (.int .i64 x.nd) := fun v => xs 0 _ v (by simp [go_sem])
  have x1 : ∀ v, ((w.alloc (.cells x.A 42)).setCell ⟨p, 0, none⟩ v).cell? ⟨w.heap.size, 1, none⟩ = some (.int .u16 x.i) := fun v => xs 1 _ v (by simp [go_sem])
  have x2 : ∀ v, ((w.alloc (.cells x.A 42)).setCell ⟨p, 0, none⟩ v).cell? ⟨w.heap.size, 2, none⟩ = some (.int .i64 x.n) := fun v => xs 2 _ v (by simp [go_sem])
  have x3 : ∀ v, ((w.alloc (.cells x.A 42)).setCell ⟨p, 0, none⟩ v).cell? ⟨w.heap.size, 3, none⟩ = some (.int .u8 x.d0) := fun v => xs 3 _ v (by simp [go_sem])
  have x4 : ∀ v, ((w.alloc (.cells x.A 42)).setCell ⟨p, 0, none⟩ v).cell? ⟨w.heap.size, 4, none⟩ = some (.int .u8 x.d1) := fun v => xs 4 _ v (by simp [go_sem])
  have x5 : ∀ v, ((w.alloc (.cells x.A 42)).setCell ⟨p, 0, none⟩ v).cell? ⟨w.heap.size, 5, none⟩ = some (.int .u8 x.d2) := fun v => xs 5 _ v (by simp [go_sem])
  have x6 : ∀ v, ((w.alloc (.cells x.A 42)).setCell ⟨p, 0, none⟩ v).cell? ⟨w.heap.size, 6, none⟩ = some (.int .u8 x.d3) := fun v => xs 6 _ v (by simp [go_sem])
  have x7 : ∀ v, ((w.alloc (.cells x.A 42)).setCell ⟨p, 0, none⟩ v).cell? ⟨w.heap.size, 7, none⟩ = some (.int .u8 x.d4) := fun v => xs 7 _ v (by simp [go_sem])
  have x8 : ∀ v, ((w.alloc (.cells x.A 42)).setCell ⟨p, 0, none⟩ v).cell? ⟨w.heap.size, 8, none⟩ = some (.int .u8 x.d5) := fun v => xs 8 _ v (by simp [go_sem])
  have x9 : ∀ v, ((w.alloc (.cells x.A 42)).setCell ⟨p, 0, none⟩ v).cell? ⟨w.heap.size, 9, none⟩ = some (.int .u8 x.d6) := fun v => xs 9 _ v (by simp [go_sem])
  have x10 : ∀ v, ((w.alloc (.cells x.A 42)).setCell ⟨p, 0, none⟩ v).cell? ⟨w.heap.size, 10, none⟩ = some (.int .u8 x.d7) := fun v => xs 10 _ v (by simp [go_sem])
  have x11 : ∀ v, ((w.alloc (.cells x.A 42)).setCell ⟨p, 0, none⟩ v).cell? ⟨w.heap.size, 11, none⟩ = some (.bool x.r) := fun v => xs 11 _ v (by simp [go_sem])
  have x12 : ∀ v, ((w.alloc (.cells x.A 42)).setCell ⟨p, 0, none⟩ v).cell? ⟨w.heap.size, 12, none⟩ = some (.int .i64 x.nm) := fun v => xs 12 _ v (by simp [go_sem])
  clear h hN xs
  go_enter Try.func84, Try.ntmps84
  go_wp2_with (first | refine wpList_load_by rfl 42 (.tmp 14) rfl _ _ rfl LD ?_ | refine wpList_store_by rfl 42 (.tmp 4) (.tmp 15) rfl _ _ rfl rfl ST ?_)
  go_ret
  exact ⟨rfl, (RES.out _).1, (RES.out _).2⟩
#print axioms pop_any
end Go.Proofs.Ytndlpjfofjikeaa
