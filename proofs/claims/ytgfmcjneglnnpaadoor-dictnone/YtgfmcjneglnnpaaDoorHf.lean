/-
  Places sorted; the places of a dictionary.
-/
import Derived.Test.YtgfmcjneglnnpaaDoorHb
import Derived.Test.YtgfmcjneglnnpaaDoorShelfQ
namespace Go.Proofs.YtgfmcjneglnnpaaDoor
open Go.RowKit Go.Sort

theorem sort_any (W : World) (v : Value) (l : List Pq) (b : Nat) (h : IsQ W b v l) (hb : b ≤ W.heap.size) (hl : l.length ≤ 1000000) :
    Calls Tryd.prog 51 #[v, .func (.func 43) #[] #[]] W fun e w' => e = .returned (.tuple #[]) ∧ IsQ w' b v (srt l) ∧ Below b W w' := by
  rcases Nat.eq_zero_or_pos l.length with hz | hz
  · obtain rfl := List.eq_nil_of_length_eq_zero hz
    have e0 : ∃ p cap, v = .slice p 0 cap := by
      rcases h.form with ⟨h1, _⟩ | ⟨g, cap, _, hv, _⟩
      · exact ⟨_, _, h1⟩
      · exact ⟨_, _, hv⟩
    obtain ⟨p, cap, rfl⟩ := e0
    refine (AnyF.slices_SortFunc_none Tryd.sortPl p cap (.func (.func 43) #[] #[]) W).mono ?_
    rintro e w' ⟨rfl, rfl⟩
    exact ⟨rfl, by rw [show srt [] = [] from by simp [srt]]; exact h, Below.refl _ _⟩
  · obtain ⟨g, cap, rfl⟩ := h.isSome (fun e => by rw [e] at hz; simp at hz)
    have eg : ∀ args w, (callFunc 43 args).run Tryd.prog w = .ok (.enter 43 args) w := enters_of Tryd.func43 (by kernel_rfl) rfl
    have hc : CmpLays Tryd.prog 43 #[] Pq.L 2 cfP g 0 l.toArray.size W := fun m os dk _ x y => (cmpPl x.i x.s y.i y.s _).mono fun e w' hh => hh
    have hg := (h.lt g rfl)
    have hcon := AnyQ.slices_SortFunc_total Tryd.sortPl 2 (fun w => aggP w) (fun w => by kernel_rfl) Pq.L Pq.L_len (fun x u hu => by simp [Pq.L] at hu; rcases hu with rfl | rfl <;> rfl) cfP swoP 43 #[] g 0 cap l.toArray W eg hc h.holds hg.2 (by simp; omega) totP
    rw [List.size_toArray] at hcon
    refine hcon.mono ?_
    rintro e w' ⟨rfl, n, os, rfl⟩
    obtain ⟨q1, q2⟩ := h.sorted (l' := srt l) (srt_perm l).length_eq n os
    rw [(srt_perm l).length_eq] at q1
    exact ⟨rfl, q1, q2.os, q2.tape, q2.output, q2.size, fun k hk => q2.block k (by omega) (by simp; omega)⟩

theorem places_any (p m : Nat) (cg : Int) (lst : Mp) (w : World) (hp : w.heap[p]? = some (.cells #[.map (some m), .int .i64 cg] 80 (0, 0))) (hm : IsM w m lst) (hl : lst.length ≤ 1000000) :
    Calls Tryd.prog 36 #[.pointer (some ⟨p, 0, none⟩)] w fun e w' => ∃ v, e = .returned v ∧ IsQ w' w.heap.size v (srt (keysOf lst)) ∧ Below w.heap.size w w' :=
  places_of p m cg lst w hp hm hl fun W v l b => sort_any W v l b
#print axioms places_any
end Go.Proofs.YtgfmcjneglnnpaaDoor
