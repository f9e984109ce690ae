/-
  Rounds of a range over a function; what they keep.
-/
import Derived.RangeFuncNested
import Derived.RangeFuncBound
import Derived.RangeFuncCalls
import Derived.RangeFuncLeaves
import Derived.RangeFuncWrites
import Derived.RangeFuncOne
import Derived.Shelf.Abstract
import Derived.Shelf.RegionOpen
import Derived.OwnWalkIn
import Derived.TacticsInMore
import Derived.LoopNIn
import Derived.LoopIn
import Derived.Test.YtcdmldnaagiicaaDoorDa
namespace Go.Proofs.YtcdmldnaagiicaaDoor
open Go.RowKit Go.Shelf
attribute [local go_sem] Oper.semAt_some

theorem op_round {P : Program} {l n : Nat} {o : Oper} {a : Act} {w : World} {K : Act → World → Prop} {Q : Exit → Act → World → Prop} (hd : ∀ c, o.op ≠ .defer c) (h : o.wp P a w K Q) : o.wpIn (Fence.wide.inRound l) n P a w K Q := by
  refine ⟨fun _ _ => trivial, ?_⟩
  show o.uponIn _ n P a K Q ((o.semAt (some l) a.eval).run P w)
  rw [Oper.semAt_some l _ o hd]
  unfold Oper.wp at h
  generalize (execOp a.eval o).run P w = r at *
  cases r with
  | ok v w' =>
    cases v with
    | enter f args => exact ⟨(fun e => by cases e), CallsIn.inRound l (callsIn_wide.2 h)⟩
    | row r args => exact ⟨(fun e => by cases e), fun c cs _ => let ⟨v, w2, r2, s⟩ := h c cs; ⟨v, w2, r2, stepsIn_wide.2 s⟩⟩
    | round _ _ _ _ _ => exact h.elim
    | _ => exact h
  | halt x w' => cases x <;> exact h
theorem wpOp_round {P : Program} {l n : Nat} {ops : Array Oper} {Q : Exit → Act → World → Prop} (hL : ∀ a w, ¬ Q .outgrown a w) (hd : ∀ (i : Nat) (o : Oper), ops[i]? = some o → ∀ c, o.op ≠ .defer c) {i : Nat} {K : Act → World → Prop} {a : Act} {w : World} (h : wpOp P ops Q i K a w) : wpOpIn (Fence.wide.inRound l) n P ops Q i K a w := by
  unfold wpOpIn
  unfold wpOp at h
  cases hi : ops[i]? with
  | none => simpa [hi] using h
  | some o =>
    simp only [hi] at h ⊢
    by_cases hw : Region.wanted o (yielded ops a.tmps) = true
    · rw [if_pos hw] at h ⊢
      rcases h with h | ⟨_, a', w', h⟩
      · exact op_round (hd i o hi) h
      · exact absurd h (hL a' w')
    · rw [if_neg hw] at h ⊢
      exact ⟨fun _ _ => trivial, h⟩
theorem any_round {P : Program} {l n : Nat} {md : Region.Mode} {ops : Array Oper} {Q : Exit → Act → World → Prop} (hL : ∀ a w, ¬ Q .outgrown a w) (hd : ∀ (i : Nat) (o : Oper), ops[i]? = some o → ∀ c, o.op ≠ .defer c) : ∀ (fuel : Nat) (listed : Array Bool) (a : Act) (w : World), wpAny P md ops Q fuel listed a w → wpAnyIn (Fence.wide.inRound l) n P md ops Q fuel listed a w := by
  intro fuel
  induction fuel with
  | zero => intro listed a w h; exact h
  | succ fuel ih =>
    intro listed a w h
    exact ⟨h.1, fun i hi => wpOpIn_mono (fun a w hh => ih _ a w hh) (wpOp_round hL hd (h.2 i hi))⟩
/-- Does no operation of a region defer? -/
def noDefer (ops : Array Oper) : Bool := ops.all fun o => match o.op with | .defer _ => false | _ => true
theorem noDefer_of {ops : Array Oper} (h : noDefer ops = true) (i : Nat) (o : Oper) (hi : ops[i]? = some o) (c : Call) : o.op ≠ .defer c := by
  intro e
  unfold noDefer at h
  rw [Array.all_eq_true] at h
  obtain ⟨hl, rfl⟩ := Array.getElem?_eq_some_iff.1 hi
  have := h i hl
  rw [e] at this
  cases this
/-- A region that draws, within a round, taken as anywhere. -/
theorem region_round {l n id : Nat} {ops : Array Oper} {Q : Exit → Act → World → Prop} {S : World → Prop} {a : Act} {w : World} (hL : ∀ a w, ¬ Q .outgrown a w) (hd : noDefer ops = true) (hm : Tryd.prog.follows .mixedOrders = true) (hS : S w.drew)
    (h : S w.drew → wpAnyH Tryd.prog .any ops Q S ops.size (Array.replicate ops.size false) a w.drew) : (Code.region id ops true).wpIn (Fence.wide.inRound l) n Tryd.prog Q a w :=
  wpIn_region_any hm (any_round hL (noDefer_of hd) _ _ _ _ (wpAny_of_held _ _ _ _ (h hS)))
/-- Of what stands in cells only blocks of a list may turn; ahead of a place nothing else. -/
structure Kq (S : List Nat) (N : Nat) (w w' : World) : Prop where
  os : w'.os = w.os
  tape : w'.tape = w.tape
  output : w'.output = w.output
  size : w.heap.size ≤ w'.heap.size
  block : ∀ k o, w.heap[k]? = some o → k ∉ S → (k < N ∨ o.isCells = true) → w'.heap[k]? = some o
theorem Kq.trans {S : List Nat} {N : Nat} {a b c : World} (h : Kq S N a b) (k : Kq S N b c) : Kq S N a c :=
  ⟨k.os.trans h.os, k.tape.trans h.tape, k.output.trans h.output, Nat.le_trans h.size k.size, fun i o hi hs hc => k.block i o (h.block i o hi hs hc) hs hc⟩
theorem Kq.of {S : List Nat} (N : Nat) {a b : World} (h : Kp S a b) : Kq S N a b := ⟨h.os, h.tape, h.output, h.size, fun i o hi hs _ => by rw [h.block i (lt_of_heap hi) hs]; exact hi⟩
theorem Kq.put {S : List Nat} {N : Nat} (W : World) (l : Nat) (o o' : Obj) (hl : N ≤ l) (ho : W.heap[l]? = some o) (hc : o.isCells = false) : Kq S N W (W.putObj l o') := by
  refine ⟨rfl, rfl, rfl, by simp [World.putObj], fun k q hk _ hq => ?_⟩
  have hkl : k ≠ l := fun e => by
    subst e
    rw [ho] at hk
    obtain rfl := Option.some.inj hk
    rcases hq with hq | hq
    · omega
    · rw [hc] at hq; cases hq
  rw [← hk]
  simp [World.putObj, Ne.symm hkl]

theorem grown_of {w w' : World} (hb : Below w.heap.size w w') : w.grownBy w' none := ⟨hb.os, hb.tape, hb.output, hb.size, fun k hk _ => hb.block k hk⟩
theorem kq_of_grown {N : Nat} {A B : World} {row : Option Nat} (hg : A.grownBy B row) (hr : ∀ r, row = some r → N ≤ r ∧ ∃ o : Obj, A.heap[r]? = some o ∧ o.isCells = false) : Kq [] N A B :=
  ⟨hg.os, hg.tape, hg.output, hg.size, fun k o hk _ hc => by
    rw [hg.block k (lt_of_heap hk) (fun e => by
      obtain ⟨h1, o', h2, h3⟩ := hr k e.symm
      rw [hk] at h2
      obtain rfl := Option.some.inj h2
      rcases hc with hc | hc
      · omega
      · rw [h3] at hc; cases hc)]
    exact hk⟩
theorem Kq.more {S S' : List Nat} {N : Nat} {a b : World} (h : Kq S N a b) (hs : ∀ k ∈ S, k ∈ S') : Kq S' N a b := ⟨h.os, h.tape, h.output, h.size, fun i o hi hn hc => h.block i o hi (fun hm => hn (hs i hm)) hc⟩
theorem Kq.cells {S : List Nat} {N : Nat} {a b : World} (h : Kq S N a b) {k : Nat} {C : Array Value} {t : TypeId} {f : Nat × Nat} (hk : a.heap[k]? = some (.cells C t f)) (hs : k ∉ S) : b.heap[k]? = some (.cells C t f) := h.block k _ hk hs (.inr rfl)
theorem block_of_cell {w : World} {b o : Nat} {v : Value} (h : w.cell? ⟨b, o, none⟩ = some v) : ∃ C t f, w.heap[b]? = some (.cells C t f) := by
  unfold World.cell? at h
  split at h
  · rename_i C t f hc; exact ⟨C, t, f, hc⟩
  · cases h
theorem Row.kq {w w' : World} {a : Option Addr} {n N : Nat} {zs : List Int} {S : List Nat} (h : Row w a n zs) (k : Kq S N w w') (hn : 0 < n → ∀ b off, a = some ⟨b, off, none⟩ → b ∉ S) : Row w' a n zs where
  size := h.size
  oct := h.oct
  at_ := fun hp => by
    obtain ⟨b, off, e, hc⟩ := h.at_ hp
    refine ⟨b, off, e, fun i hi => ?_⟩
    obtain ⟨C, t, f, hb⟩ := block_of_cell (hc i hi)
    rw [World.cell?_of_block (w := w) ((k.cells hb (hn hp b off e)).trans hb.symm)]
    exact hc i hi
theorem keeps_of_kp {S : List Nat} {N : Nat} {W W' : World} (h : Kp S W W') (hS : ∀ s ∈ S, s < N) : KeepsFrom N W W' := ⟨h.size, fun k o hN hk _ => by rw [h.block k (lt_of_heap hk) (fun hm => by have := hS k hm; omega)]; exact hk⟩
def firstRange : Code → Option Code
  | .rangeFunc g ps a c => some (.rangeFunc g ps a c)
  | .seq a b => match firstRange a with
    | some c => some c
    | none => firstRange b
  | .block _ c => firstRange c
  | .scope c => firstRange c
  | .loop c => firstRange c
  | .cond _ a b => match firstRange a with
    | some c => some c
    | none => firstRange b
  | _ => none
#print axioms region_round
end Go.Proofs.YtcdmldnaagiicaaDoor
