/-
  The frame of a command that is asked.
-/
import Derived.Test.YtenfbebdfodmdaaUc
namespace Go.Proofs.Ytenfbebdfodmdaa
open Go.RowKit

theorem build1 (w : World) (i n d0 d1 d2 d3 d4 d5 d6 d7 : Int) (r : Bool) :
    (Instr.buildSlice 34 1 #[(0, frV i n d0 d1 d2 d3 d4 d5 d6 d7 r)]).run Try.prog w = .ok (.slice (some ⟨w.heap.size, 0, none⟩) 1 1) (w.alloc (.cells (frC i n d0 d1 d2 d3 d4 d5 d6 d7 r) 25)) := by
  kernel_rfl
theorem wpList_build1 {ops : Array Oper} {rest : List Oper} {o : Oper} {a : Act} {w : World} {Q : Exit → Act → World → Prop} {i n d0 d1 d2 d3 d4 d5 d6 d7 : Int} {r : Bool} (hgd : o.guard = none) (x : Operand)
    (ho : o.op = .buildSlice 34 1 #[(0, x)]) (hx : a.eval x = frV i n d0 d1 d2 d3 d4 d5 d6 d7 r)
    (h : wpList Try.prog ops Q rest (a.put o.dst (.slice (some ⟨w.heap.size, 0, none⟩) 1 1)) (w.alloc (.cells (frC i n d0 d1 d2 d3 d4 d5 d6 d7 r) 25))) : wpList Try.prog ops Q (o :: rest) a w := by
  refine wpList_plain hgd fun K hK => ?_
  unfold Oper.wp execOp
  simp only [ho, List.map_toArray, List.map_cons, List.map_nil, hx, build1, Sem.run_bind, Result.andThen_ok]
  exact hK _ _ h

/-- One frame is told. -/
def OnePost (w : World) (FC : Array Value) (e : Ending) (w' : World) : Prop := ∃ g, e = .returned (.slice (some ⟨g, 0, none⟩) 1 1) ∧ w.heap.size ≤ g ∧ w'.heap[g]? = some (.cells FC 25 (0, 0)) ∧ Below w.heap.size w w'

set_option linter.unusedSimpArgs false in
set_option maxHeartbeats 4000000 in
set_option maxRecDepth 100000 in
theorem ask_at (p : Nat) (A wt : Int) (tp rp : Option Addr) (k i s : Int) (z : Bool) (n : Int) (q : Bool) (a2 : Option Addr) (len2 cap2 : Nat) (t l c : Bool) (b e u m o : Int) (b0 b1 b2 b3 b4 b5 b6 b7 : Int) (w : World) (hp : w.heap[p]? = some (.cells (clC A wt tp rp) 60 (0, 0))) (hA0 : 0 ≤ A) (hA : A ≤ 127) (ho : Oct [b0, b1, b2, b3, b4, b5, b6, b7])
    (HA : Hid (∀ W, Below w.heap.size w W → Calls Try.prog 36 #[cmV k i s z n q a2 len2 cap2 t l c b e u m o] W fun e w' => e = .returned (.tuple #[arr8 b0 b1 b2 b3 b4 b5 b6 b7, .int .i64 0]) ∧ Below W.heap.size W w')) :
    Calls Try.prog 27 #[.pointer (some ⟨p, 0, none⟩), cmV k i s z n q a2 len2 cap2 t l c b e u m o] w (OnePost w (frC (1536 + A) 8 b0 b1 b2 b3 b4 b5 b6 b7 false)) := by
  have HP : Hid (w.heap[p]? = some (.cells (clC A wt tp rp) 60 (0, 0))) := hp
  have HF : Hid (∀ W, W.heap[p]? = some (.cells (clC A wt tp rp) 60 (0, 0)) → Calls Try.prog 37 #[.pointer (some ⟨p, 0, none⟩), arr8 b0 b1 b2 b3 b4 b5 b6 b7] W fun e w' => e = .returned (frV (1536 + A) 8 b0 b1 b2 b3 b4 b5 b6 b7 false) ∧ Below W.heap.size W w') := fun W h => frameOf_at p A wt tp rp b0 b1 b2 b3 b4 b5 b6 b7 W h hA0 hA ho
  clear hp ho
  go_enter Try.func27, Try.ntmps27
  go_wp2_with (refine wpList_load_by rfl 54 _ rfl ⟨w.heap.size, 0, none⟩ _ rfl (loadCM _ _ k i s z n q a2 len2 cap2 t l c b e u m o _ (at11 _ _ _ rfl)) ?_)
  with_reducible refine (HA.out _ (Below.al (Below.refl _ _) _)).mono ?_
  rintro r w1 ⟨rfl, hb⟩
  have B1 : Hid (Below w.heap.size w w1) := Below.andThen (Below.al (Below.refl _ _) _) hb
  have HP1 : Hid (w1.heap[p]? = some (.cells (clC A wt tp rp) 60 (0, 0))) := blk11 B1.out HP.out
  clear hb
  go_wp2_with (refine wpList_load_by rfl 23 _ rfl ⟨w1.heap.size, 0, none⟩ _ rfl (load8 _ _ b0 b1 b2 b3 b4 b5 b6 b7 _ (at11 _ _ _ rfl)) ?_)
  with_reducible refine (HF.out _ (ext11 HP1.out)).mono ?_
  rintro r w2 ⟨rfl, hb⟩
  have B2 : Hid (Below w.heap.size w w2) := Below.andThen (Below.al B1.out _) hb
  clear hb
  go_wp2_with (refine wpList_build1 rfl _ rfl rfl ?_)
  go_ret
  exact ⟨_, rfl, B2.out.size, at11 _ _ _ rfl, Below.al B2.out _⟩
#print axioms ask_at
end Go.Proofs.Ytenfbebdfodmdaa
