/-
  Rounds of a range over a function; what they keep.
  The bits of a row: a function to range over.
  Bits laid into a row.
  lay.
  A Map that may be.
  A mapping that may be: Check, Size.
  Pack.
  A value's bits, taken out of a row.
  Unpack.
  Check, of any Maps.
  The document's mapping: whether so many bits fit a type; gaps.
-/
import Derived.RangeFuncNested
import Derived.RangeFuncBound
import Derived.RangeFuncCalls
import Derived.RangeFuncLeaves
import Derived.RangeFuncWrites
import Derived.RangeFuncOne
import Derived.Shelf.Abstract
import Derived.Shelf.RegionOpen
import Derived.OwnWalkIn
import Derived.TacticsInMore
import Derived.LoopNIn
import Derived.LoopIn
import Derived.Test.YtajllkkbgpijiaaGreatDoorDa
import Derived.Test.YtajllkkbgpijiaaGreatDoorTk9
import Derived.Test.YtajllkkbgpijiaaGreatDoorDg
import Derived.WalkSmall
import Derived.Test.YtajllkkbgpijiaaGreatDoorIa
import Derived.Test.YtajllkkbgpijiaaGreatDoorXc
namespace Go.Proofs.YtajllkkbgpijiaaGreatDoor
open Go.RowKit Go.Shelf
attribute [local go_sem] Oper.semAt_some

theorem op_round {P : Program} {l n : Nat} {o : Oper} {a : Act} {w : World} {K : Act → World → Prop} {Q : Exit → Act → World → Prop} (hd : ∀ c, o.op ≠ .defer c) (h : o.wp P a w K Q) : o.wpIn (Fence.wide.inRound l) n P a w K Q := by
  refine ⟨fun _ _ => trivial, ?_⟩
  show o.uponIn _ n P a K Q ((o.semAt (some l) a.eval).run P w)
  rw [Oper.semAt_some l _ o hd]
  unfold Oper.wp at h
  generalize (execOp a.eval o).run P w = r at *
  cases r with
  | ok v w' =>
    cases v with
    | enter f args => exact ⟨(fun e => by cases e), CallsIn.inRound l (callsIn_wide.2 h)⟩
    | row r args => exact ⟨(fun e => by cases e), fun c cs _ => let ⟨v, w2, r2, s⟩ := h c cs; ⟨v, w2, r2, stepsIn_wide.2 s⟩⟩
    | round _ _ _ _ _ => exact h.elim
    | _ => exact h
  | halt x w' => cases x <;> exact h
theorem wpOp_round {P : Program} {l n : Nat} {ops : Array Oper} {Q : Exit → Act → World → Prop} (hL : ∀ a w, ¬ Q .outgrown a w) (hd : ∀ (i : Nat) (o : Oper), ops[i]? = some o → ∀ c, o.op ≠ .defer c) {i : Nat} {K : Act → World → Prop} {a : Act} {w : World} (h : wpOp P ops Q i K a w) : wpOpIn (Fence.wide.inRound l) n P ops Q i K a w := by
  unfold wpOpIn
  unfold wpOp at h
  cases hi : ops[i]? with
  | none => simpa [hi] using h
  | some o =>
    simp only [hi] at h ⊢
    by_cases hw : Region.wanted o (yielded ops a.tmps) = true
    · rw [if_pos hw] at h ⊢
      rcases h with h | ⟨_, a', w', h⟩
      · exact op_round (hd i o hi) h
      · exact absurd h (hL a' w')
    · rw [if_neg hw] at h ⊢
      exact ⟨fun _ _ => trivial, h⟩
theorem any_round {P : Program} {l n : Nat} {md : Region.Mode} {ops : Array Oper} {Q : Exit → Act → World → Prop} (hL : ∀ a w, ¬ Q .outgrown a w) (hd : ∀ (i : Nat) (o : Oper), ops[i]? = some o → ∀ c, o.op ≠ .defer c) : ∀ (fuel : Nat) (listed : Array Bool) (a : Act) (w : World), wpAny P md ops Q fuel listed a w → wpAnyIn (Fence.wide.inRound l) n P md ops Q fuel listed a w := by
  intro fuel
  induction fuel with
  | zero => intro listed a w h; exact h
  | succ fuel ih =>
    intro listed a w h
    exact ⟨h.1, fun i hi => wpOpIn_mono (fun a w hh => ih _ a w hh) (wpOp_round hL hd (h.2 i hi))⟩
/-- Does no operation of a region defer? -/
def noDefer (ops : Array Oper) : Bool := ops.all fun o => match o.op with | .defer _ => false | _ => true
theorem noDefer_of {ops : Array Oper} (h : noDefer ops = true) (i : Nat) (o : Oper) (hi : ops[i]? = some o) (c : Call) : o.op ≠ .defer c := by
  intro e
  unfold noDefer at h
  rw [Array.all_eq_true] at h
  obtain ⟨hl, rfl⟩ := Array.getElem?_eq_some_iff.1 hi
  have := h i hl
  rw [e] at this
  cases this
/-- A region that draws, within a round, taken as anywhere. -/
theorem region_round {l n id : Nat} {ops : Array Oper} {Q : Exit → Act → World → Prop} {S : World → Prop} {a : Act} {w : World} (hL : ∀ a w, ¬ Q .outgrown a w) (hd : noDefer ops = true) (hm : Tryz.prog.follows .mixedOrders = true) (hS : S w.drew)
    (h : S w.drew → wpAnyH Tryz.prog .any ops Q S ops.size (Array.replicate ops.size false) a w.drew) : (Code.region id ops true).wpIn (Fence.wide.inRound l) n Tryz.prog Q a w :=
  wpIn_region_any hm (any_round hL (noDefer_of hd) _ _ _ _ (wpAny_of_held _ _ _ _ (h hS)))
/-- Of what stands in cells only blocks of a list may turn; ahead of a place nothing else. -/
structure Kq (S : List Nat) (N : Nat) (w w' : World) : Prop where
  os : w'.os = w.os
  tape : w'.tape = w.tape
  output : w'.output = w.output
  size : w.heap.size ≤ w'.heap.size
  block : ∀ k o, w.heap[k]? = some o → k ∉ S → (k < N ∨ o.isCells = true) → w'.heap[k]? = some o
theorem Kq.trans {S : List Nat} {N : Nat} {a b c : World} (h : Kq S N a b) (k : Kq S N b c) : Kq S N a c :=
  ⟨k.os.trans h.os, k.tape.trans h.tape, k.output.trans h.output, Nat.le_trans h.size k.size, fun i o hi hs hc => k.block i o (h.block i o hi hs hc) hs hc⟩
theorem Kq.of {S : List Nat} (N : Nat) {a b : World} (h : Kp S a b) : Kq S N a b := ⟨h.os, h.tape, h.output, h.size, fun i o hi hs _ => by rw [h.block i (lt_of_heap hi) hs]; exact hi⟩
theorem Kq.put {S : List Nat} {N : Nat} (W : World) (l : Nat) (o o' : Obj) (hl : N ≤ l) (ho : W.heap[l]? = some o) (hc : o.isCells = false) : Kq S N W (W.putObj l o') := by
  refine ⟨rfl, rfl, rfl, by simp [World.putObj], fun k q hk _ hq => ?_⟩
  have hkl : k ≠ l := fun e => by
    subst e
    rw [ho] at hk
    obtain rfl := Option.some.inj hk
    rcases hq with hq | hq
    · omega
    · rw [hc] at hq; cases hq
  rw [← hk]
  simp [World.putObj, Ne.symm hkl]

theorem grown_of {w w' : World} (hb : Below w.heap.size w w') : w.grownBy w' none := ⟨hb.os, hb.tape, hb.output, hb.size, fun k hk _ => hb.block k hk⟩
theorem kq_of_grown {N : Nat} {A B : World} {row : Option Nat} (hg : A.grownBy B row) (hr : ∀ r, row = some r → N ≤ r ∧ ∃ o : Obj, A.heap[r]? = some o ∧ o.isCells = false) : Kq [] N A B :=
  ⟨hg.os, hg.tape, hg.output, hg.size, fun k o hk _ hc => by
    rw [hg.block k (lt_of_heap hk) (fun e => by
      obtain ⟨h1, o', h2, h3⟩ := hr k e.symm
      rw [hk] at h2
      obtain rfl := Option.some.inj h2
      rcases hc with hc | hc
      · omega
      · rw [h3] at hc; cases hc)]
    exact hk⟩
theorem Kq.more {S S' : List Nat} {N : Nat} {a b : World} (h : Kq S N a b) (hs : ∀ k ∈ S, k ∈ S') : Kq S' N a b := ⟨h.os, h.tape, h.output, h.size, fun i o hi hn hc => h.block i o hi (fun hm => hn (hs i hm)) hc⟩
theorem Kq.cells {S : List Nat} {N : Nat} {a b : World} (h : Kq S N a b) {k : Nat} {C : Array Value} {t : TypeId} {f : Nat × Nat} (hk : a.heap[k]? = some (.cells C t f)) (hs : k ∉ S) : b.heap[k]? = some (.cells C t f) := h.block k _ hk hs (.inr rfl)
theorem block_of_cell {w : World} {b o : Nat} {v : Value} (h : w.cell? ⟨b, o, none⟩ = some v) : ∃ C t f, w.heap[b]? = some (.cells C t f) := by
  unfold World.cell? at h
  split at h
  · rename_i C t f hc; exact ⟨C, t, f, hc⟩
  · cases h
theorem Row.kq {w w' : World} {a : Option Addr} {n N : Nat} {zs : List Int} {S : List Nat} (h : Row w a n zs) (k : Kq S N w w') (hn : 0 < n → ∀ b off, a = some ⟨b, off, none⟩ → b ∉ S) : Row w' a n zs where
  size := h.size
  oct := h.oct
  at_ := fun hp => by
    obtain ⟨b, off, e, hc⟩ := h.at_ hp
    refine ⟨b, off, e, fun i hi => ?_⟩
    obtain ⟨C, t, f, hb⟩ := block_of_cell (hc i hi)
    rw [World.cell?_of_block (w := w) ((k.cells hb (hn hp b off e)).trans hb.symm)]
    exact hc i hi
theorem keeps_of_kp {S : List Nat} {N : Nat} {W W' : World} (h : Kp S W W') (hS : ∀ s ∈ S, s < N) : KeepsFrom N W W' := ⟨h.size, fun k o hN hk _ => by rw [h.block k (lt_of_heap hk) (fun hm => by have := hS k hm; omega)]; exact hk⟩
def firstRange : Code → Option Code
  | .rangeFunc g ps a c => some (.rangeFunc g ps a c)
  | .seq a b => match firstRange a with
    | some c => some c
    | none => firstRange b
  | .block _ c => firstRange c
  | .scope c => firstRange c
  | .loop c => firstRange c
  | .cond _ a b => match firstRange a with
    | some c => some c
    | none => firstRange b
  | _ => none
#print axioms region_round
end Go.Proofs.YtajllkkbgpijiaaGreatDoor
namespace Go.Proofs.YtajllkkbgpijiaaGreatDoor
open Go.RowKit Go.Shelf
attribute [local go_sem] Oper.semAt_some

set_option linter.unusedSimpArgs false in
set_option maxHeartbeats 4000000 in
set_option maxRecDepth 100000 in
theorem bits_any (a : Option Addr) (len cap off cnt : Nat) (w : World) :
    Calls Tryz.prog 23 #[.slice a len cap, .int .i64 (off : Int), .int .i64 (cnt : Int)] w fun e w' => e = .returned (.func (.func 46) #[] #[.pointer (some ⟨w.heap.size + 1 + 1, 0, none⟩), .pointer (some ⟨w.heap.size + 1, 0, none⟩), .pointer (some ⟨w.heap.size, 0, none⟩)]) ∧ w' = ((w.alloc (.cells #[.slice a len cap] 24)).alloc (.cells #[.int .i64 (off : Int)] 3)).alloc (.cells #[.int .i64 (cnt : Int)] 3) := by
  go_enter Tryz.func23, Tryz.ntmps23
  go_wp2_with fail
  go_ret
  exact ⟨rfl, rfl⟩

/-- What the iteration reads. -/
structure BM (Bn Bf Br off cnt : Nat) (a : Option Addr) (len cap : Nat) (zs : List Int) (W : World) : Prop where
  n : W.heap[Bn]? = some (.cells #[.int .i64 (cnt : Int)] 3 (0, 0))
  f : W.heap[Bf]? = some (.cells #[.int .i64 (off : Int)] 3 (0, 0))
  r : W.heap[Br]? = some (.cells #[.slice a len cap] 24 (0, 0))
  row : Row W a len zs
theorem BM.next {Bn Bf Br off cnt : Nat} {a : Option Addr} {len cap : Nat} {zs : List Int} {W W' : World} (h : BM Bn Bf Br off cnt a len cap zs W) (hb : Below W.heap.size W W') : BM Bn Bf Br off cnt a len cap zs W' :=
  ⟨blk11 hb h.n, blk11 hb h.f, blk11 hb h.r, h.row.next hb⟩
theorem BM.kq {Bn Bf Br off cnt N : Nat} {a : Option Addr} {len cap : Nat} {zs : List Int} {S : List Nat} {W W' : World} (h : BM Bn Bf Br off cnt a len cap zs W) (k : Kq S N W W') (n1 : Bn ∉ S) (n2 : Bf ∉ S) (n3 : Br ∉ S) (n4 : 0 < len → ∀ b o, a = some ⟨b, o, none⟩ → b ∉ S) : BM Bn Bf Br off cnt a len cap zs W' :=
  ⟨k.cells h.n n1, k.cells h.f n2, k.cells h.r n3, h.row.kq k n4⟩
/-- A bit. -/
def bitA (zs : List Int) (k : Nat) : Int := bits .and .u8 (zs.getD (k / 8) 0 / 2 ^ (k % 8)) 1
/-- One that is told: its number. -/
structure BX (cnt : Nat) where
  i : Nat
  h : i < cnt
/-- The bits that are told. -/
def bq (cnt : Nat) : List (BX cnt) := List.ofFn fun i : Fin cnt => ⟨i.1, i.2⟩
theorem bq_len (cnt : Nat) : (bq cnt).length = cnt := by simp [bq]
theorem bq_at (cnt i : Nat) (hi : i < cnt) : (bq cnt).take i ++ [⟨i, hi⟩] = (bq cnt).take (i + 1) := by
  rw [List.take_add_one, List.getElem?_eq_getElem (by rw [bq_len]; exact hi)]
  simp [bq]

set_option linter.unusedSimpArgs false in
set_option maxRecDepth 100000 in
set_option maxHeartbeats 4000000 in
theorem iter_m (n l Bn Bf Br N off cnt : Nat) (S : List Nat) (a : Option Addr) (len cap : Nat) (zs : List Int) (hcnt : off + cnt ≤ 8 * len) (hlen : len ≤ 1000000) (n1 : Bn ∉ S) (n2 : Bf ∉ S) (n3 : Br ∉ S) (n4 : 0 < len → ∀ b o, a = some ⟨b, o, none⟩ → b ∉ S)
    (J Jx : List (BX cnt) → World → Prop) (W : World)
    (hY : ∀ pre (x : BX cnt) W, J pre W → pre.length < cnt → YieldAt Fence.wide (n - 1) Tryz.prog l #[.int .i64 (x.i : Int), .int .u8 (bitA zs (off + x.i))] W fun e W' =>
      (e = .returned (.bool true) ∧ J (pre ++ [x]) W' ∧ Kq S N W W') ∨ (e = .returned (.bool false) ∧ Jx (pre ++ [x]) W'))
    (hI : BM Bn Bf Br off cnt a len cap zs W) (h0 : J [] W) :
    CallsIn Fence.wide n Tryz.prog 46 #[.func (.yield l) #[] #[], .pointer (some ⟨Bn, 0, none⟩), .pointer (some ⟨Bf, 0, none⟩), .pointer (some ⟨Br, 0, none⟩)] W fun e W' => (∃ v, e = .returned v) ∧
      ((∃ ys, ys = bq cnt ∧ J ys W') ∨ (∃ pre, pre <+: bq cnt ∧ Jx pre W')) := by
  have hql := bq_len cnt
  have cN : W.cell? ⟨Bn, 0, none⟩ = some (.int .i64 (cnt : Int)) := by rw [cell_of_row W _ _ _ _ _ hI.n]; rfl
  have HI : Hid (BM Bn Bf Br off cnt a len cap zs W) := hI
  clear hI
  refine callsIn_of_wp Tryz.func46 rfl trivial ?_ rfl
  simp only [Tryz.ntmps46, List.size_toArray, List.length_cons, List.length_nil, Nat.reduceAdd, Nat.reduceSub, Array.replicate_succ, Array.replicate_zero, List.push_toArray, List.append_toArray, List.nil_append, List.cons_append]
  gi_wp2
  gi_loopw [8] (fun u wr => ∃ i : Nat, u = .int .i64 (i : Int) ∧ i ≤ cnt ∧ J ((bq cnt).take i) wr ∧ Hid (BM Bn Bf Br off cnt a len cap zs wr)) (fun u wr => cnt - (intOf u).toNat)
  case atStart => exact ⟨0, rfl, by omega, h0, HI⟩
  case round =>
    obtain ⟨i, rfl, hi, hJi, hB⟩ := hrel
    clear cN
    rcases Nat.lt_or_ge i cnt with him | him
    · have g1 : (i : Int) < cnt := by omega
      have hp : 0 < len := by omega
      obtain ⟨b, o, rfl, hc⟩ := hB.out.row.at_ hp
      have cF : wr.cell? ⟨Bf, 0, none⟩ = some (.int .i64 (off : Int)) := by rw [cell_of_row wr _ _ _ _ _ hB.out.f]; rfl
      have cR : wr.cell? ⟨Br, 0, none⟩ = some (.slice (some ⟨b, o, none⟩) len cap) := by rw [cell_of_row wr _ _ _ _ _ hB.out.r]; rfl
      have cX := hc ((off + i) / 8) (by omega)
      obtain ⟨q, hq⟩ : ∃ q, Hid (q = zs.getD ((off + i) / 8) 0) := ⟨_, rfl⟩
      rw [← hq.out] at cX
      obtain ⟨y, hy0⟩ : ∃ y, Hid (y = bits .and .u8 (q / 2 ^ ((off + i) % 8)) 1) := ⟨_, rfl⟩
      have hyb : Hid (bitA zs (off + i) = y) := by show _ = _; unfold bitA; rw [← hq.out, hy0.out]
      have hlenp : ((bq cnt).take i).length < cnt := by rw [List.length_take]; omega
      have TK : Hid ((bq cnt).take i ++ [⟨i, him⟩] = (bq cnt).take (i + 1)) := bq_at cnt i him
      have hYi := hY _ ⟨i, him⟩ wr hJi hlenp
      dsimp only at hYi
      rw [hyb.out] at hYi
      obtain ⟨fn, tmps, assign, body, hy, hR⟩ := hYi
      have ey : bits .and .u8 (q / 2 ^ ((off + i) % 8)) 1 = y := hy0.out.symm
      clear hc
      have w1 : IntKind.i64.wrap ((off : Int) + (i : Int)) = ((off + i : Nat) : Int) := by rw [IntKind.wrap_i64]; omega
      gi_wp2_with fail
      refine ⟨(fun e => by cases e), ?_⟩
      refine hR.mono ?_
      rintro e W3 (⟨rfl, hJ3, hk3⟩ | ⟨rfl, hJx3⟩)
      · have kI : Hid (BM Bn Bf Br off cnt (some ⟨b, o, none⟩) len cap zs W3) := hB.out.kq hk3 n1 n2 n3 n4
        gi_wp2
        exact ⟨⟨i + 1, by go_num, by omega, by rw [← TK.out]; exact hJ3, kI⟩, by simp [intOf]; omega⟩
      · gi_wp2
        refine bodyPost_ret (results_none rfl _ _ _) rfl ?_
        exact ⟨⟨_, rfl⟩, .inr ⟨_, by rw [TK.out]; exact List.take_prefix _ _, hJx3⟩⟩
    · obtain rfl : i = cnt := by omega
      have FIN : Hid (J (bq i) wr) := by
        have := hJi
        rw [List.take_of_length_le (by omega)] at this
        exact this
      gi_wp2_with fail
      refine bodyPost_end (results_none rfl _ _ _) rfl ?_
      exact ⟨⟨_, rfl⟩, .inl ⟨_, rfl, FIN.out⟩⟩
#print axioms iter_m
end Go.Proofs.YtajllkkbgpijiaaGreatDoor
namespace Go.Proofs.YtajllkkbgpijiaaGreatDoor
open Go.RowKit Go.Shelf
attribute [local go_sem] Oper.semAt_some

/-- One bit more in a row. -/
def orB (ys : List Int) (k : Nat) (b : Int) : List Int := ys.set (k / 8) (bits .or .u8 (ys.getD (k / 8) 0) (IntKind.u8.wrap (b * 2 ^ (k % 8))))
theorem orB_len (ys : List Int) (k : Nat) (b : Int) : (orB ys k b).length = ys.length := by simp [orB]
/-- Bits laid into a row, one behind the other. -/
def layL (zs : List Int) (off fr : Nat) {cnt : Nat} (ys : List Int) (pre : List (BX cnt)) : List Int := pre.foldl (fun ys x => orB ys (fr + x.i) (bitA zs (off + x.i))) ys
theorem layL_len (zs : List Int) (off fr : Nat) {cnt : Nat} (ys : List Int) (pre : List (BX cnt)) : (layL zs off fr ys pre).length = ys.length := by
  unfold layL
  induction pre generalizing ys with
  | nil => rfl
  | cons x l ih => rw [List.foldl_cons, ih, orB_len]
theorem layL_app (zs : List Int) (off fr : Nat) {cnt : Nat} (ys : List Int) (pre : List (BX cnt)) (x : BX cnt) : layL zs off fr ys (pre ++ [x]) = orB (layL zs off fr ys pre) (fr + x.i) (bitA zs (off + x.i)) := by
  unfold layL
  rw [List.foldl_append]
  rfl
/-- What the loop has made of the row. -/
structure LP (W0 : World) (g : Nat) (zs : List Int) (off fr : Nat) {cnt : Nat} (ys0 : List Int) (pre : List (BX cnt)) (W : World) : Prop where
  row : W.heap[g]? = some (.cells ((layL zs off fr ys0 pre).map (Value.int .u8)).toArray 5 (0, 0))
  keep : Kq [g] W0.heap.size W0 W
theorem LP.grown {W0 : World} {g : Nat} {zs : List Int} {off fr cnt : Nat} {ys0 : List Int} {pre : List (BX cnt)} {W W' : World} {row : Option Nat} (h : LP W0 g zs off fr ys0 pre W) (hg : W.grownBy W' row) (hr : ∀ r, row = some r → W0.heap.size ≤ r ∧ ∃ o : Obj, W.heap[r]? = some o ∧ o.isCells = false) : LP W0 g zs off fr ys0 pre W' := by
  have k := kq_of_grown hg hr
  exact ⟨k.cells h.row (by simp), h.keep.trans (k.more (by simp))⟩
noncomputable def lyRange : Code := (Tryz.f22.body.bind firstRange).getD .skip

set_option linter.unusedSimpArgs false in
set_option maxHeartbeats 4000000 in
set_option maxRecDepth 100000 in
theorem lay_loop {Q : Exit → Act → World → Prop} (c0 c1 c2 c5 c6 c7 c8 c10 c11 c12 c13 c14 c15 c16 c17 c18 c19 c20 c21 c22 c23 c24 c25 : Value) (W0 : World) (B0 B1 Bn Bf Br g R off fr cnt : Nat) (a : Option Addr) (len cap : Nat) (zs ys0 : List Int)
    (hB0 : W0.heap[B0]? = some (.cells #[.slice (some ⟨g, 0, none⟩) R R] 24 (0, 0))) (hB1 : W0.heap[B1]? = some (.cells #[.int .i64 (fr : Int)] 3 (0, 0)))
    (hcnt : off + cnt ≤ 8 * len) (hlen : len ≤ 1000000) (hfr : fr + cnt ≤ 8 * R) (hR : R ≤ 1000000) (hys : ys0.length = R) (ne0 : B0 ≠ g) (ne1 : B1 ≠ g) (ne2 : Bn ≠ g) (ne3 : Bf ≠ g) (ne4 : Br ≠ g) (ne5 : 0 < len → ∀ b o, a = some ⟨b, o, none⟩ → b ≠ g)
    (hI : BM Bn Bf Br off cnt a len cap zs W0) (h0 : W0.heap[g]? = some (.cells (ys0.map (Value.int .u8)).toArray 5 (0, 0)))
    (hdone : ∀ (D : Nat) (W : World), W0.heap.size ≤ D → LP W0 g zs off fr ys0 (bq cnt) W → W.heap[D]? = some (.deferred (some [])) → Q .normal { tmps := #[c0, c1, c2, .pointer (some ⟨B0, 0, none⟩), .pointer (some ⟨B1, 0, none⟩), c5, c6, c7, c8, .func (.func 46) #[] #[.pointer (some ⟨Bn, 0, none⟩), .pointer (some ⟨Bf, 0, none⟩), .pointer (some ⟨Br, 0, none⟩)], c10, c11, c12, c13, c14, c15, c16, c17, c18, c19, c20, c21, c22, c23, c24, c25], defers := [{ target := .collected D, args := #[] }] } W) :
    Code.wp Tryz.prog lyRange Q { tmps := #[c0, c1, c2, .pointer (some ⟨B0, 0, none⟩), .pointer (some ⟨B1, 0, none⟩), c5, c6, c7, c8, .func (.func 46) #[] #[.pointer (some ⟨Bn, 0, none⟩), .pointer (some ⟨Bf, 0, none⟩), .pointer (some ⟨Br, 0, none⟩)], c10, c11, c12, c13, c14, c15, c16, c17, c18, c19, c20, c21, c22, c23, c24, c25], defers := [] } W0 := by
  have lg := lt_of_heap h0
  refine (wpIn_wide (n := 10)).1 ?_
  conv => arg 4; whnf
  refine wpIn_rangeFunc_ownH rfl (by omega) (gf := 46) (lb := #[.pointer (some ⟨Bn, 0, none⟩), .pointer (some ⟨Bf, 0, none⟩), .pointer (some ⟨Br, 0, none⟩)]) rfl trivial (enters_of Tryz.func46 (by kernel_rfl) rfl)
    (encs := fun x : BX cnt => #[.int .i64 (x.i : Int), .int .u8 (bitA zs (off + x.i))]) (Kp := Kq [g] W0.heap.size) (S := fun ys : List (BX cnt) => ys = bq cnt) (Sp := fun pre : List (BX cnt) => pre <+: bq cnt) (N := cnt) (w0 := W0)
    (fun l J Jx W hW hJ _ hY h0' => (iter_m _ l Bn Bf Br W0.heap.size off cnt [g] a len cap zs hcnt hlen (by simpa using ne2) (by simpa using ne3) (by simpa using ne4) (fun hp b o e => by simpa using ne5 hp b o e) J Jx W hY (hI.next hW) h0' : CallsIn Fence.wide _ Tryz.prog 46 #[.func (.yield l) #[] #[], .pointer (some ⟨Bn, 0, none⟩), .pointer (some ⟨Bf, 0, none⟩), .pointer (some ⟨Br, 0, none⟩)] W fun e W' => (∃ v, e = .returned v) ∧ ((∃ ys, ys = bq cnt ∧ J ys W') ∨ (∃ pre, pre <+: bq cnt ∧ Jx pre W'))))
    (fun h k => h.trans k) (fun W l o o' hl ho hc _ => Kq.put W l o o' hl ho hc) (Below.refl _ _) (fun _ => rfl)
    (LP W0 g zs off fr ys0) (fun _ _ _ => False)
    (fun s A B row hs hg hr => hs.grown hg hr)
    (fun _ _ _ _ _ hs _ _ => hs)
    ⟨h0, Kq.of _ (Kp.refl _ _)⟩
    (fun x a' _ => a' = { tmps := #[c0, c1, c2, .pointer (some ⟨B0, 0, none⟩), .pointer (some ⟨B1, 0, none⟩), c5, .int .i64 (x.i : Int), .int .u8 (bitA zs (off + x.i)), c8, .func (.func 46) #[] #[.pointer (some ⟨Bn, 0, none⟩), .pointer (some ⟨Bf, 0, none⟩), .pointer (some ⟨Br, 0, none⟩)], .int .i64 (x.i : Int), .int .u8 (bitA zs (off + x.i)), c12, c13, c14, c15, c16, c17, c18, c19, c20, c21, c22, c23, c24, c25], defers := [] })
    (fun x a' _ A B row hs hg hr => hs)
    ?assign ?body ?done ?stop
  case assign =>
    rintro l pre x W K hI hK
    gi_wp2
    exact hK _ _ (KeepsFrom.refl _ _) (Kq.of _ (Kp.refl _ _)) hI rfl
  case body =>
    rintro l pre x a' W hl ⟨r, hr⟩ hP rfl hlt
    have hx := x.h
    have k1 : W.heap[B1]? = _ := hP.keep.cells hB1 (by simpa using ne1)
    have hc1 : W.cell? ⟨B1, 0, none⟩ = some (.int .i64 (fr : Int)) := by rw [cell_of_row W _ _ _ _ _ k1]; rfl
    have HB0 : Hid (W.heap[B0]? = some (.cells #[.slice (some ⟨g, 0, none⟩) R R] 24 (0, 0))) := hP.keep.cells hB0 (by simpa using ne0)
    obtain ⟨ys, hys0⟩ : ∃ ys, Hid (ys = layL zs off fr ys0 pre) := ⟨_, rfl⟩
    have hyl : ys.length = R := by rw [hys0.out, layL_len]; exact hys
    have HG : Hid (W.heap[g]? = some (.cells (ys.map (Value.int .u8)).toArray 5 (0, 0))) := by rw [hys0.out]; exact hP.row
    have HK : Hid (Kq [g] W0.heap.size W0 W) := hP.keep
    obtain ⟨k, hk⟩ : ∃ k, Hid (k = fr + x.i) := ⟨_, rfl⟩
    obtain ⟨y, hy⟩ : ∃ y, Hid (y = bitA zs (off + x.i)) := ⟨_, rfl⟩
    obtain ⟨q, hq⟩ : ∃ q, Hid (q = ys.getD (k / 8) 0) := ⟨_, rfl⟩
    obtain ⟨sh, hsh⟩ : ∃ sh, Hid (sh = IntKind.u8.wrap (y * 2 ^ (k % 8))) := ⟨_, rfl⟩
    have CG : Hid (∀ z : World, z.heap[g]? = some (.cells (ys.map (Value.int .u8)).toArray 5 (0, 0)) → z.cell? ⟨g, k / 8, none⟩ = some (.int .u8 q)) := fun z hz => by
      rw [cell_of_row z _ _ _ _ _ hz, hq.out]
      simp [List.getD_eq_getElem?_getD, show k / 8 < ys.length from by have := hk.out; omega]
    obtain ⟨rr, hrr⟩ : ∃ rr, Hid (rr = bits .or .u8 q sh) := ⟨_, rfl⟩
    have wk : IntKind.i64.wrap ((fr : Int) + (x.i : Int)) = ((fr + x.i : Nat) : Int) := by rw [IntKind.wrap_i64]; omega
    rw [← hy.out]
    clear k1 hP
    gi_wp2_with fail
    have ek : (fr : Int) + (x.i : Int) = (k : Int) := by have := hk.out; omega
    rw [ek]
    have hk8 : k < 8 * R := by have := hk.out; omega
    clear ek wk hc1
    refine region_round (S := fun z => z.heap[B0]? = some (.cells #[.slice (some ⟨g, 0, none⟩) R R] 24 (0, 0)) ∧ Kp [g] W z) ?hL (by kernel_rfl) (by kernel_rfl) ⟨HB0.out, (Kp.refl _ _).drew⟩ (fun hHeld => ?_)
    case hL => exact fun _ _ h => h
    refine tk 0 (.slice (some ⟨g, 0, none⟩) R R) rfl (.inl ⟨by rfl, ?_⟩) ?_
    · intro w9 hSw
      try dsimp only at hSw
      have c0 : w9.cell? ⟨B0, 0, none⟩ = some (.slice (some ⟨g, 0, none⟩) R R) := by rw [cell_of_row _ _ 0 _ _ _ hSw.1]; rfl
      go_simp
      all_goals try assumption
    try simp only [Act.put, gA, gS, gZ, sA, sZ, sS]
    refine tk 1 (.int .i64 (k : Int)) rfl (.inl ⟨by rfl, ?_⟩) ?_
    · intro w9 hSw
      try dsimp only at hSw
      go_simp
      all_goals try decide
      all_goals try assumption
      all_goals try omega
    try simp only [Act.put, gA, gS, gZ, sA, sZ, sS]
    refine tk 2 (.int .i64 ((k : Int) / 8)) rfl (.inl ⟨by rfl, ?_⟩) ?_
    · intro w9 hSw
      try dsimp only at hSw
      have e8 : (k : Int).tdiv 8 = (k : Int) / 8 := Int.tdiv_eq_ediv_of_nonneg (by omega)
      have e9 : IntKind.i64.wrap ((k : Int) / 8) = (k : Int) / 8 := by rw [IntKind.wrap_i64]; omega
      go_simp
      all_goals try omega
    try simp only [Act.put, gA, gS, gZ, sA, sZ, sS]
    refine tk 3 (.pointer (some ⟨g, k / 8, none⟩)) rfl (.inl ⟨by rfl, ?_⟩) ?_
    · intro w9 hSw
      try dsimp only at hSw
      have q1 : (k : Int) / 8 < (R : Int) := by omega
      have q0 : (0 : Int) ≤ (k : Int) / 8 := by omega
      have q2 : ((k : Int) / 8).toNat = k / 8 := by omega
      go_simp
      all_goals try omega
    try simp only [Act.put, gA, gS, gZ, sA, sZ, sS]
    refine tk 5 (.int .u8 y) rfl (.inl ⟨by rfl, ?_⟩) ?_
    · intro w9 hSw
      try dsimp only at hSw
      go_simp
      all_goals try decide
      all_goals try assumption
      all_goals try omega
    try simp only [Act.put, gA, gS, gZ, sA, sZ, sS]
    refine tk 6 (.int .i64 (k : Int)) rfl (.inl ⟨by rfl, ?_⟩) ?_
    · intro w9 hSw
      try dsimp only at hSw
      go_simp
      all_goals try decide
      all_goals try assumption
      all_goals try omega
    try simp only [Act.put, gA, gS, gZ, sA, sZ, sS]
    refine tk 7 (.int .i64 ((k : Int) % 8)) rfl (.inl ⟨by rfl, ?_⟩) ?_
    · intro w9 hSw
      try dsimp only at hSw
      go_simp
      all_goals exact Int.tmod_eq_emod_of_nonneg (by omega)
    try simp only [Act.put, gA, gS, gZ, sA, sZ, sS]
    refine tk 8 (.int .u8 sh) rfl (.inl ⟨by rfl, ?_⟩) ?_
    · intro w9 hSw
      try dsimp only at hSw
      have s1 : (0 : Int) ≤ (k : Int) % 8 := by omega
      have s2 : ((k : Int) % 8).toNat = k % 8 := by omega
      have s3 : ¬ ((k : Int) % 8 < 0) := by omega
      go_simp
      all_goals exact hsh.out.symm
    try simp only [Act.put, gA, gS, gZ, sA, sZ, sS]
    refine wpAnyH_ready (rs := [4]) (by kernel_rfl) (by simp) ?_
    refine AllReadyH.cons rfl (fun K' hK => ?_) AllReadyH.nil
    rw [if_pos (by rfl)]
    simp only [gA, gS, gZ]
    have c0 := CG.out W.drew HG.out
    go_wp2_with fail
    refine hK.out _ _ (hHeld) (fun hHeld => ?_)
    clear hK K'
    try simp only [Act.put, gA, gS, gZ, sA, sZ, sS]
    refine tk 9 (.int .u8 rr) rfl (.inl ⟨by rfl, ?_⟩) ?_
    · intro w9 hSw
      try dsimp only at hSw
      have er : bits .or .u8 q sh = rr := hrr.out.symm
      go_simp
      all_goals try assumption
    try simp only [Act.put, gA, gS, gZ, sA, sZ, sS]
    refine tk 10 (.pointer (some ⟨g, k / 8, none⟩)) rfl (.inl ⟨by rfl, ?_⟩) ?_
    · intro w9 hSw
      try dsimp only at hSw
      have q1 : (k : Int) / 8 < (R : Int) := by omega
      have q0 : (0 : Int) ≤ (k : Int) / 8 := by omega
      have q2 : ((k : Int) / 8).toNat = k / 8 := by omega
      go_simp
      all_goals try omega
    try simp only [Act.put, gA, gS, gZ, sA, sZ, sS]
    refine wpAnyH_ready (rs := [11]) (by kernel_rfl) (by simp) ?_
    refine AllReadyH.cons rfl (fun K' hK => ?_) AllReadyH.nil
    rw [if_pos (by rfl)]
    simp only [gA, gS, gZ]
    have c0 := CG.out W.drew HG.out
    have f0 : W.drew.frozen? ⟨g, k / 8, none⟩ = false := frozen_of_row _ _ _ _ _ HG.out
    go_wp2_with fail
    refine hK.out _ _ (⟨(heap_setCell_other _ _ _ _ (by simpa using ne0)).trans hHeld.1, hHeld.2.set _ _ (.inl (by simp))⟩) (fun hHeld => ?_)
    clear hK K'
    try simp only [Act.put, gA, gS, gZ, sA, sZ, sS]
    refine wpAnyH_done (by kernel_rfl) ?_ _
    have K3 : Kp [g] W (W.setCell ⟨g, k / 8, none⟩ (.int .u8 rr)).drew := ((Kp.refl _ W).set _ _ (.inl (by simp))).drew
    refine ⟨keeps_of_kp K3 (by simp; omega), Kq.of _ K3, ⟨?_, HK.out.trans (Kq.of _ K3)⟩⟩
    show (W.setCell ⟨g, k / 8, none⟩ (.int .u8 rr)).heap[g]? = _
    rw [heap_setCell_same W g (k / 8) _ _ _ HG.out, layL_app, ← hys0.out, ← hy.out, ← hk.out]
    unfold orB
    rw [← hq.out, ← hsh.out, ← hrr.out]
    simp [List.map_set]
  case done =>
    rintro D ys W hD rfl h2 h3
    exact hdone D W hD h2 h3
  case stop =>
    rintro D c pre W _ _ h _
    exact h.elim
#print axioms lay_loop
end Go.Proofs.YtajllkkbgpijiaaGreatDoor
namespace Go.Proofs.YtajllkkbgpijiaaGreatDoor
open Go.RowKit Go.Shelf
attribute [local go_sem] Oper.semAt_some

/-- Bits of a row laid into another one. -/
def layB (zs : List Int) (off cnt fr : Nat) (ys : List Int) : List Int := layL zs off fr ys (bq cnt)

set_option linter.unusedSimpArgs false in
set_option maxHeartbeats 4000000 in
set_option maxRecDepth 100000 in
theorem lay_any (w : World) (Bn Bf Br g R off fr cnt : Nat) (a : Option Addr) (len cap : Nat) (zs ys0 : List Int)
    (hcnt : off + cnt ≤ 8 * len) (hlen : len ≤ 1000000) (hfr : fr + cnt ≤ 8 * R) (hR : R ≤ 1000000) (hys : ys0.length = R) (ne2 : Bn ≠ g) (ne3 : Bf ≠ g) (ne4 : Br ≠ g) (ne5 : 0 < len → ∀ b o, a = some ⟨b, o, none⟩ → b ≠ g)
    (hI : BM Bn Bf Br off cnt a len cap zs w) (h0 : w.heap[g]? = some (.cells (ys0.map (Value.int .u8)).toArray 5 (0, 0))) :
    Calls Tryz.prog 22 #[.slice (some ⟨g, 0, none⟩) R R, .int .i64 (fr : Int), .func (.func 46) #[] #[.pointer (some ⟨Bn, 0, none⟩), .pointer (some ⟨Bf, 0, none⟩), .pointer (some ⟨Br, 0, none⟩)]] w fun e w' => e = .returned (.tuple #[]) ∧ w'.heap[g]? = some (.cells ((layB zs off cnt fr ys0).map (Value.int .u8)).toArray 5 (0, 0)) ∧ Kp [g] w w' := by
  have lg := lt_of_heap h0
  have HG0 : Hid (w.heap[g]? = some (.cells (ys0.map (Value.int .u8)).toArray 5 (0, 0))) := h0
  have HI : Hid (BM Bn Bf Br off cnt a len cap zs w) := hI
  clear h0 hI
  refine (callsIn_wide (n := 10)).1 (callsIn_of_wp_marks Tryz.func22 rfl trivial ?_ rfl)
  simp only [Tryz.ntmps22, List.size_toArray, List.length_cons, List.length_nil, Nat.reduceAdd, Nat.reduceSub, Array.replicate_succ, Array.replicate_zero, List.push_toArray, List.append_toArray, List.nil_append, List.cons_append]
  refine wpIn_wide.2 ?_
  go_wp2_with fail
  obtain ⟨W0, HW0⟩ : ∃ W0, Hid ((w.alloc (.cells #[.slice (some ⟨g, 0, none⟩) R R] 24)).alloc (.cells #[.int .i64 (fr : Int)] 3) = W0) := ⟨_, rfl⟩
  have BW : Hid (Below w.heap.size w W0) := by show Below _ _ _; rw [← HW0.out]; exact (by repeat (first | exact Below.refl _ _ | apply Below.drew | apply Below.al))
  have SW : Hid (W0.heap.size = w.heap.size + 2) := by show _ = _; rw [← HW0.out]; simp
  refine lay_loop _ _ _ _ _ _ _ _ _ _ _ _ _ _ _ _ _ _ _ _ _ _ _ _ w.heap.size (w.heap.size + 1) Bn Bf Br g R off fr cnt a len cap zs ys0 (ext11 (at11 _ _ _ rfl)) (at11 _ _ _ (by simp)) hcnt hlen hfr hR hys (by omega) (by omega) ne2 ne3 ne4 ne5 (HI.out.next (by repeat (first | exact Below.refl _ _ | apply Below.drew | apply Below.al))) (ext11 (ext11 HG0.out)) ?_
  rintro D W hD hP hDf
  have hD2 : w.heap.size + 2 ≤ D := by simpa using hD
  have k1 : Kq [g] W0.heap.size W0 W := by rw [← HW0.out]; exact hP.keep
  have FINB : Hid (∀ o', Kp [g] w (W.putObj D o')) := fun o' => by
    have b0 := BW.out
    have s0 := SW.out
    refine ⟨k1.os.trans b0.os, k1.tape.trans b0.tape, k1.output.trans b0.output, by have := k1.size; have := b0.size; simp [World.putObj]; omega, fun x hx hn => ?_⟩
    have hxW : x < W0.heap.size := by omega
    have hxD : x ≠ D := by omega
    obtain ⟨o, ho⟩ : ∃ o, W0.heap[x]? = some o := ⟨_, Array.getElem?_eq_getElem hxW⟩
    have e1 : (W.putObj D o').heap[x]? = W.heap[x]? := by simp [World.putObj, Ne.symm hxD]
    rw [e1, k1.block x o ho hn (.inl hxW), ← ho]
    exact b0.block x hx
  have FINR : Hid (∀ o', (W.putObj D o').heap[g]? = some (.cells ((layB zs off cnt fr ys0).map (Value.int .u8)).toArray 5 (0, 0))) := fun o' => by
    have hxD : g ≠ D := by omega
    have e1 : (W.putObj D o').heap[g]? = W.heap[g]? := by simp [World.putObj, Ne.symm hxD]
    rw [e1]
    exact hP.row
  clear hP k1
  refine ⟨by simp, .inl ⟨_, _, rfl, run_takeDeferred hDf, ?_⟩⟩
  refine ⟨_, results_none rfl _ _ _, ?_⟩
  exact ⟨rfl, FINR.out _, FINB.out _⟩
#print axioms lay_any
end Go.Proofs.YtajllkkbgpijiaaGreatDoor
namespace Go.Proofs.YtajllkkbgpijiaaGreatDoor
open Go.RowKit

set_option linter.unusedSimpArgs false in
set_option maxHeartbeats 4000000 in
set_option maxRecDepth 100000 in
theorem bytesFor_any (n : Nat) (w : World) (hn : n ≤ 1000000) : Calls Tryz.prog 21 #[.int .i64 (n : Int)] w fun e w' => e = .returned (.int .i64 (((n + 7) / 8 : Nat) : Int)) ∧ w' = w := by
  have e1 : IntKind.i64.wrap ((n : Int) + 7) = (n : Int) + 7 := by rw [IntKind.wrap_i64]; omega
  have e2 : ((n : Int) + 7).tdiv 8 = ((n : Int) + 7) / 8 := Int.tdiv_eq_ediv_of_nonneg (by omega)
  go_enter Tryz.func21, Tryz.ntmps21
  go_wp2_with fail
  go_ret
  refine ⟨?_, rfl⟩
  have : (((n + 7) / 8 : Nat) : Int) = ((n : Int) + 7) / 8 := by omega
  rw [this]
  try rfl
/-- Has a Map of a type so many bits? -/
def hasB (t b : Int) : Bool := decide (0 < Ty.Pl.sizeN t) && (b == 8 * Ty.Pl.sizeN t || (t == 1 && b == 1))

set_option linter.unusedSimpArgs false in
set_option maxHeartbeats 4000000 in
set_option maxRecDepth 100000 in
theorem hasBits_any (t b : Int) (w : World) : Calls Tryz.prog 47 #[.int .u8 t, .int .i64 b] w fun e w' => e = .returned (.bool (hasB t b)) ∧ w' = w := by
  obtain ⟨z, hz⟩ : ∃ z, Hid (z = Ty.Pl.sizeN t) := ⟨_, rfl⟩
  have HSZ : Hid (∀ W, Calls Tryz.prog 66 #[.int .u8 t] W fun e w' => e = .returned (.tuple #[.int .i64 z, .bool (decide (0 < z))]) ∧ w' = W) := fun W => by rw [hz.out]; exact Ty.size_any t W
  have HR : Hid (hasB t b = (decide (0 < z) && (b == 8 * z || (t == 1 && b == 1)))) := by show _ = _; unfold hasB; rw [hz.out]
  have hzb : 0 ≤ z ∧ z ≤ 8 := by rw [hz.out]; unfold Ty.Pl.sizeN; repeat' split
                                 all_goals omega
  go_enter Tryz.func47, Tryz.ntmps47
  go_wp2_with fail
  refine (HSZ.out _).mono ?_
  rintro e w1 ⟨rfl, rfl⟩
  clear HSZ
  by_cases h0 : 0 < z
  · have e8 : IntKind.i64.wrap (8 * z) = 8 * z := by rw [IntKind.wrap_i64]; omega
    by_cases h1 : b = 8 * z
    · subst h1
      go_wp2_with fail
      go_ret
      exact ⟨by rw [HR.out]; simp [h0], rfl⟩
    · by_cases h2 : t = 1
      · subst h2
        by_cases h3 : b = 1
        · subst h3
          go_wp2_with fail
          go_ret
          exact ⟨by rw [HR.out]; simp [h0], rfl⟩
        · go_wp2_with fail
          go_ret
          exact ⟨by rw [HR.out]; simp [h0, h1, h3], rfl⟩
      · go_wp2_with fail
        go_ret
        exact ⟨by rw [HR.out]; simp [h0, h1, h2], rfl⟩
  · go_wp2_with fail
    go_ret
    exact ⟨by rw [HR.out, show decide (0 < z) = false from by simpa using h0]; rfl, rfl⟩
#print axioms hasBits_any
/-- A Map as a value. -/
abbrev mpV (i s b : Int) : Value := .agg #[.int .u16 i, .int .u8 s, .int .i64 b]

set_option linter.unusedSimpArgs false in
set_option maxHeartbeats 4000000 in
set_option maxRecDepth 100000 in
theorem isGap_no (i s b : Int) (w : World) (h1 : 256 ≤ i) (h2 : i < 65536) : Calls Tryz.prog 24 #[mpV i s b] w fun e w' => e = .returned (.bool false) ∧ Below w.heap.size w w' := by
  have e1 : IntKind.u8.wrap i = i % 256 := by simp [IntKind.wrap, IntKind.bits, IntKind.signed]
  have e3 : (i == i % 256) = false := by simp; omega
  have e2 : ∀ W, (binOp .eql 43 (plV i s) (plV (i % 256) 0)).run Tryz.prog W = .ok (.bool false) W := fun W => by
    have := eqlP W i s (i % 256) 0
    rw [e3] at this
    exact this
  go_enter Tryz.func24, Tryz.ntmps24
  go_wp2_with fail
  go_ret
  exact ⟨rfl, (by repeat (first | exact Below.refl _ _ | apply Below.drew | apply Below.al))⟩
#print axioms isGap_no

set_option linter.unusedSimpArgs false in
set_option maxHeartbeats 4000000 in
set_option maxRecDepth 100000 in
theorem fits_ok (i s b : Int) (j r : Int) (nm : ByteArray) (t rt : Int) (d : Option Addr) (ld cd : Nat) (l : Option Addr) (ll cl : Nat) (h : Option Addr) (lh ch : Nat) (tg gr : Int) (w : World) (h4 : (bits .and .u8 rt 4 != 0) = true) (hb : hasB t b = true) :
    Calls Tryz.prog 65 #[mpV i s b, .agg (enC j r nm t rt d ld cd l ll cl h lh ch tg gr)] w fun e w' => e = .returned (.bool true) ∧ Below w.heap.size w w' := by
  have HH : Hid (∀ W, Calls Tryz.prog 47 #[.int .u8 t, .int .i64 b] W fun e w' => e = .returned (.bool true) ∧ w' = W) := fun W => by have := hasBits_any t b W; rw [hb] at this; exact this
  clear hb
  go_enter Tryz.func65, Tryz.ntmps65
  go_wp2_with fail
  refine (HH.out _).mono ?_
  rintro e w1 ⟨rfl, rfl⟩
  go_wp2_with fail
  go_ret
  exact ⟨rfl, (by repeat (first | exact Below.refl _ _ | apply Below.drew | apply Below.al))⟩
/-- The right that is asked. -/
def rgt (out : Bool) : Int := if out then 1 else 2

set_option linter.unusedSimpArgs false in
set_option maxHeartbeats 4000000 in
set_option maxRecDepth 100000 in
theorem mcheck_ok (out : Bool) (p m : Nat) (cg : Int) (lst : Mp) (i s b : Int) (nm : ByteArray) (t rt : Int) (d : Option Addr) (ld cd : Nat) (l : Option Addr) (ll cl : Nat) (h : Option Addr) (lh ch : Nat) (tg gr : Int) (v : Option Addr) (lv cv : Nat) (zd zl zh : List Int) (w : World) (hp : w.heap[p]? = some (.cells #[.map (some m), .int .i64 cg] 91 (0, 0))) (hm : IsM w m lst) (hl : lookP lst i s = some (.agg (itC i s nm t rt d ld cd l ll cl h lh ch tg gr v lv cv))) (rd : SlOk w d ld cd zd) (rl : SlOk w l ll cl zl) (rh : SlOk w h lh ch zh) (g1 : ld ≤ 16777216) (g2 : ll ≤ 16777216) (g3 : lh ≤ 16777216) (hi1 : 256 ≤ i) (hi2 : i < 65536)
    (h4 : (bits .and .u8 rt 4 != 0) = true) (hb : hasB t b = true) (hr : (bits .and .u8 rt (rgt out) == 0) = false) :
    Calls Tryz.prog 45 #[mpV i s b, .pointer (some ⟨p, 0, none⟩), .bool out] w fun e w' => e = .returned (.int .u32 0) ∧ Below w.heap.size w w' := by
  have HG : Hid (∀ W, Calls Tryz.prog 24 #[mpV i s b] W fun e w' => e = .returned (.bool false) ∧ Below W.heap.size W w') := fun W => isGap_no i s b W hi1 hi2
  have HF : Hid (∀ W, Below w.heap.size w W → Calls Tryz.prog 64 #[.pointer (some ⟨p, 0, none⟩), plV i s] W fun e w' => (∃ a1 c1 a2 c2 a3 c3, e = .returned (.tuple #[.agg (enC i s nm t rt a1 ld c1 a2 ll c2 a3 lh c3 tg gr), .int .u32 0])) ∧ Below W.heap.size W w') := fun W hb => findE_at p m cg lst i s nm t rt d ld cd l ll cl h lh ch tg gr v lv cv zd zl zh W (blk11 hb hp) (hm.next hb) hl (rd.next hb) (rl.next hb) (rh.next hb) g1 g2 g3
  have HT : Hid (∀ a1 c1 a2 c2 a3 c3 W, Calls Tryz.prog 65 #[mpV i s b, .agg (enC i s nm t rt a1 ld c1 a2 ll c2 a3 lh c3 tg gr)] W fun e w' => e = .returned (.bool true) ∧ Below W.heap.size W w') := fun a1 c1 a2 c2 a3 c3 W => fits_ok i s b i s nm t rt a1 ld c1 a2 ll c2 a3 lh c3 tg gr W h4 hb
  have HR : Hid ((bits .and .u8 rt (rgt out) == 0) = false) := hr
  clear hp hm hl rd rl rh g1 g2 g3 h4 hb hr
  go_enter Tryz.func45, Tryz.ntmps45
  go_wp2_with fail
  refine (HG.out _).mono ?_
  rintro e w1 ⟨rfl, hb1⟩
  have B1 : Hid (Below w.heap.size w w1) := Below.andThen (by repeat (first | exact Below.refl _ _ | apply Below.drew | apply Below.al)) hb1
  have X1 : Hid (w1.heap[w.heap.size]? = some (.cells #[.int .u16 i, .int .u8 s, .int .i64 b] 73 (0, 0))) := blk11 hb1 (at11 _ _ _ rfl)
  have c0 : w1.cell? ⟨w.heap.size, 0, none⟩ = some (.int .u16 i) := by rw [cell_of_row _ _ 0 _ _ _ X1.out]; rfl
  have c1 : w1.cell? ⟨w.heap.size, 1, none⟩ = some (.int .u8 s) := by rw [cell_of_row _ _ 1 _ _ _ X1.out]; rfl
  clear hb1
  go_wp2_with fail
  refine (HF.out _ B1.out).mono ?_
  rintro e w2 ⟨⟨a1, k1, a2, k2, a3, k3, rfl⟩, hb2⟩
  have B2 : Hid (Below w.heap.size w w2) := Below.andThen B1.out hb2
  have X2 : Hid (w2.heap[w.heap.size]? = some (.cells #[.int .u16 i, .int .u8 s, .int .i64 b] 73 (0, 0))) := blk11 hb2 X1.out
  have lw := lt_of_heap X2.out
  have d0 : w2.cell? ⟨w.heap.size, 0, none⟩ = some (.int .u16 i) := by rw [cell_of_row _ _ 0 _ _ _ X2.out]; rfl
  have d1 : w2.cell? ⟨w.heap.size, 1, none⟩ = some (.int .u8 s) := by rw [cell_of_row _ _ 1 _ _ _ X2.out]; rfl
  have d2 : w2.cell? ⟨w.heap.size, 2, none⟩ = some (.int .i64 b) := by rw [cell_of_row _ _ 2 _ _ _ X2.out]; rfl
  clear hb2 c0 c1
  cases out with
  | false =>
    have hr1 : (bits .and .u8 rt 2 == 0) = false := HR.out
    have hr2 : ¬ (bits .and .u8 rt 2 = 0) := by simpa using hr1
    clear HR
    go_wp2_with (refine wpList_load_by rfl 52 _ rfl ⟨w2.heap.size, 0, none⟩ _ rfl (load_part 52 10 sizeE aggE _ w2.heap.size 0 (enC i s nm t rt a1 ld k1 a2 ll k2 a3 lh k3 tg gr).toList _ (at11 _ _ _ rfl) (by simp)) ?_)
    refine (HT.out _ _ _ _ _ _ _).mono ?_
    rintro e w3 ⟨rfl, hb3⟩
    have B3 : Hid (Below w.heap.size w w3) := Below.andThen (Below.al B2.out _) hb3
    have X3 : Hid (w3.heap[w2.heap.size]? = some (.cells (enC i s nm t rt a1 ld k1 a2 ll k2 a3 lh k3 tg gr) 52 (0, 0))) := blk11 hb3 (at11 _ _ _ rfl)
    have c4 : w3.cell? ⟨w2.heap.size, 4, none⟩ = some (.int .u8 rt) := by rw [cell_of_row _ _ 4 _ _ _ X3.out]; rfl
    clear hb3
    go_wp2_with fail
    go_ret
    exact ⟨rfl, B3.out⟩
  | true =>
    have hr1 : (bits .and .u8 rt 1 == 0) = false := HR.out
    have hr2 : ¬ (bits .and .u8 rt 1 = 0) := by simpa using hr1
    clear HR
    go_wp2_with (refine wpList_load_by rfl 52 _ rfl ⟨w2.heap.size, 0, none⟩ _ rfl (load_part 52 10 sizeE aggE _ w2.heap.size 0 (enC i s nm t rt a1 ld k1 a2 ll k2 a3 lh k3 tg gr).toList _ (at11 _ _ _ rfl) (by simp)) ?_)
    refine (HT.out _ _ _ _ _ _ _).mono ?_
    rintro e w3 ⟨rfl, hb3⟩
    have B3 : Hid (Below w.heap.size w w3) := Below.andThen (Below.al B2.out _) hb3
    have X3 : Hid (w3.heap[w2.heap.size]? = some (.cells (enC i s nm t rt a1 ld k1 a2 ll k2 a3 lh k3 tg gr) 52 (0, 0))) := blk11 hb3 (at11 _ _ _ rfl)
    have c4 : w3.cell? ⟨w2.heap.size, 4, none⟩ = some (.int .u8 rt) := by rw [cell_of_row _ _ 4 _ _ _ X3.out]; rfl
    clear hb3
    go_wp2_with fail
    go_ret
    exact ⟨rfl, B3.out⟩
#print axioms mcheck_ok
end Go.Proofs.YtajllkkbgpijiaaGreatDoor
namespace Go.Proofs.YtajllkkbgpijiaaGreatDoor
open Go.RowKit

/-- A Map. -/
structure Mq where
  i : Int
  s : Int
  b : Nat
/-- Maps in memory. -/
def MsAt (W : World) (g : Nat) (ms : List Mq) : Prop := ∀ (k : Nat) (x : Mq), ms[k]? = some x → W.cell? ⟨g, k * 3, none⟩ = some (.int .u16 x.i) ∧ W.cell? ⟨g, k * 3 + 1, none⟩ = some (.int .u8 x.s) ∧ W.cell? ⟨g, k * 3 + 2, none⟩ = some (.int .i64 (x.b : Int))
theorem MsAt.next {W W' : World} {g : Nat} {ms : List Mq} (h : MsAt W g ms) (hb : Below W.heap.size W W') : MsAt W' g ms := fun k x hx => by
  obtain ⟨h1, h2, h3⟩ := h k x hx
  exact ⟨by rw [hb.cell (p := ⟨g, k * 3, none⟩) (block_lt_of_cell h1)]; exact h1, by rw [hb.cell (p := ⟨g, k * 3 + 1, none⟩) (block_lt_of_cell h2)]; exact h2, by rw [hb.cell (p := ⟨g, k * 3 + 2, none⟩) (block_lt_of_cell h3)]; exact h3⟩
theorem MsAt.kp {W W' : World} {g : Nat} {ms : List Mq} {S : List Nat} (h : MsAt W g ms) (hb : Kp S W W') (hg : g ∉ S) : MsAt W' g ms := fun k x hx => by
  obtain ⟨h1, h2, h3⟩ := h k x hx
  have e := hb.block g (block_lt_of_cell h1) hg
  exact ⟨by rw [World.cell?_of_block (w := W) e]; exact h1, by rw [World.cell?_of_block (w := W) e]; exact h2, by rw [World.cell?_of_block (w := W) e]; exact h3⟩
/-- May a Map be one of a mapping, of this dictionary? -/
def MpOk (W : World) (lst : Mp) (out : Bool) (x : Mq) : Prop := ∃ nm t rt d ld cd l ll cl h lh ch tg gr v lv cv zd zl zh, lookP lst x.i x.s = some (.agg (itC x.i x.s nm t rt d ld cd l ll cl h lh ch tg gr v lv cv)) ∧ SlOk W d ld cd zd ∧ SlOk W l ll cl zl ∧ SlOk W h lh ch zh ∧ ld ≤ 16777216 ∧ ll ≤ 16777216 ∧ lh ≤ 16777216 ∧ 256 ≤ x.i ∧ x.i < 65536 ∧ (bits .and .u8 rt 4 != 0) = true ∧ hasB t (x.b : Int) = true ∧ (bits .and .u8 rt (rgt out) == 0) = false
theorem MpOk.next {W W' : World} {lst : Mp} {out : Bool} {x : Mq} (h : MpOk W lst out x) (hb : Below W.heap.size W W') : MpOk W' lst out x := by
  obtain ⟨nm, t, rt, d, ld, cd, l, ll, cl, h, lh, ch, tg, gr, v, lv, cv, zd, zl, zh, h1, r1, r2, r3, r⟩ := h
  exact ⟨nm, t, rt, d, ld, cd, l, ll, cl, h, lh, ch, tg, gr, v, lv, cv, zd, zl, zh, h1, r1.next hb, r2.next hb, r3.next hb, r⟩
theorem mcheck_mp {W : World} {lst : Mp} {out : Bool} {x : Mq} {p m : Nat} {cg : Int} (h : MpOk W lst out x) (hp : W.heap[p]? = some (.cells #[.map (some m), .int .i64 cg] 91 (0, 0))) (hm : IsM W m lst) :
    Calls Tryz.prog 45 #[mpV x.i x.s (x.b : Int), .pointer (some ⟨p, 0, none⟩), .bool out] W fun e w' => e = .returned (.int .u32 0) ∧ Below W.heap.size W w' := by
  obtain ⟨nm, t, rt, d, ld, cd, l, ll, cl, h, lh, ch, tg, gr, v, lv, cv, zd, zl, zh, h1, r1, r2, r3, g1, g2, g3, i1, i2, h4, hb, hr⟩ := h
  exact mcheck_ok out p m cg lst x.i x.s x.b nm t rt d ld cd l ll cl h lh ch tg gr v lv cv zd zl zh W hp hm h1 r1 r2 r3 g1 g2 g3 i1 i2 h4 hb hr
/-- How many bits the first ones have. -/
def sumB (ms : List Mq) (k : Nat) : Nat := ((ms.take k).map (·.b)).sum
theorem sumB_succ {ms : List Mq} {k : Nat} {x : Mq} (h : ms[k]? = some x) : sumB ms (k + 1) = sumB ms k + x.b := by
  obtain ⟨hk, he⟩ := List.getElem?_eq_some_iff.1 h
  unfold sumB
  rw [List.take_succ_eq_append_getElem hk, List.map_append, List.sum_append, he]
  simp
theorem sumB_le (ms : List Mq) {k j : Nat} (h : k ≤ j) : sumB ms k ≤ sumB ms j := by
  unfold sumB
  have : ms.take k = (ms.take j).take k := by rw [List.take_take, Nat.min_eq_left h]
  rw [this]
  generalize ms.take j = l
  clear this h
  induction l generalizing k with
  | nil => simp
  | cons x l ih =>
    cases k with
    | zero => simp
    | succ k => simp only [List.take_succ_cons, List.map_cons, List.sum_cons]; have := ih (k := k); omega

set_option linter.unusedSimpArgs false in
set_option maxHeartbeats 4000000 in
set_option maxRecDepth 100000 in
theorem check_ok (out : Bool) (p m : Nat) (cg : Int) (lst : Mp) (gm N cap : Nat) (ms : List Mq) (w : World) (hp : w.heap[p]? = some (.cells #[.map (some m), .int .i64 cg] 91 (0, 0))) (hm : IsM w m lst) (hN : ms.length = N) (h64 : N ≤ 64) (hM : MsAt w gm ms) (hO : ∀ x ∈ ms, MpOk w lst out x) (hs : sumB ms N ≤ 64) :
    Calls Tryz.prog 18 #[.pointer (some ⟨p, 0, none⟩), .slice (some ⟨gm, 0, none⟩) N cap, .bool out] w fun e w' => e = .returned (.int .u32 0) ∧ Below w.heap.size w w' := by
  have HC : Hid (∀ W, Below w.heap.size w W → ∀ x ∈ ms, Calls Tryz.prog 45 #[mpV x.i x.s (x.b : Int), .pointer (some ⟨p, 0, none⟩), .bool out] W fun e w' => e = .returned (.int .u32 0) ∧ Below W.heap.size W w') := fun W hb x hx => mcheck_mp ((hO x hx).next hb) (blk11 hb hp) (hm.next hb)
  have HM : Hid (MsAt w gm ms) := hM
  clear hp hm hM hO
  go_enter Tryz.func18, Tryz.ntmps18
  go_wp2_with fail
  go_loopw [7, 16] (fun cv iv wr => ∃ k : Nat, k ≤ N ∧ iv = .int .i64 (k : Int) ∧ cv = .int .i64 ((sumB ms k : Nat) : Int) ∧ Hid (Below w.heap.size w wr)) (fun _ iv _ => N - (intOf iv).toNat)
  case atStart => exact ⟨0, Nat.zero_le _, rfl, rfl, Below.refl _ _⟩
  case round =>
    obtain ⟨k, hk, rfl, rfl, HB⟩ := hrel
    by_cases hkN : k < N
    · have gk : (k : Int) < (N : Int) := by omega
      have gk0 : (0 : Int) ≤ (k : Int) := by omega
      obtain ⟨x, hx⟩ : ∃ x, ms[k]? = some x := ⟨_, List.getElem?_eq_getElem (by omega)⟩
      obtain ⟨c0, c1, c2⟩ := (HM.out.next HB.out) k x hx
      have SS : Hid (sumB ms (k + 1) = sumB ms k + x.b) := sumB_succ hx
      have SL : Hid (sumB ms (k + 1) ≤ 64) := Nat.le_trans (sumB_le ms (by omega)) hs
      obtain ⟨sk, hsk⟩ : ∃ sk, Hid (sk = sumB ms k) := ⟨_, rfl⟩
      rw [← hsk.out] at SS ⊢
      have HX : Hid (x ∈ ms) := List.mem_of_getElem? hx
      have wk : IntKind.i64.wrap ((k : Int) + 1) = ((k + 1 : Nat) : Int) := by rw [IntKind.wrap_i64]; omega
      have ws : IntKind.i64.wrap ((sk : Int) + (x.b : Int)) = ((sk + x.b : Nat) : Int) := by have := SS.out; have := SL.out; rw [IntKind.wrap_i64]; omega
      have gs : ¬ ((64 : Int) < ((sk + x.b : Nat) : Int)) := by have := SS.out; have := SL.out; omega
      clear hx
      go_wp2_with fail
      refine (HC.out _ (Below.al HB.out _) x HX.out).mono ?_
      rintro e w2 ⟨rfl, hb⟩
      have B2 : Hid (Below w.heap.size w w2) := Below.andThen (Below.al HB.out _) hb
      have X2 : Hid (w2.heap[wr.heap.size]? = some (.cells #[.int .u16 x.i, .int .u8 x.s, .int .i64 (x.b : Int)] 73 (0, 0))) := blk11 hb (at11 _ _ _ rfl)
      have d2 : w2.cell? ⟨wr.heap.size, 2, none⟩ = some (.int .i64 (x.b : Int)) := by rw [cell_of_row _ _ 2 _ _ _ X2.out]; rfl
      clear hb c0 c1 c2
      go_wp2_with fail
      exact ⟨⟨k + 1, by omega, by go_num, by rw [SS.out]; go_num, B2.out⟩, by simp [intOf]; omega⟩
    · obtain rfl : k = N := by omega
      go_wp2_with fail
      go_ret
      exact ⟨rfl, HB.out⟩

set_option linter.unusedSimpArgs false in
set_option maxHeartbeats 4000000 in
set_option maxRecDepth 100000 in
theorem size_ok (gm N cap : Nat) (ms : List Mq) (w : World) (hN : ms.length = N) (h64 : N ≤ 64) (hM : MsAt w gm ms) (hs : sumB ms N ≤ 64) :
    Calls Tryz.prog 19 #[.slice (some ⟨gm, 0, none⟩) N cap] w fun e w' => e = .returned (.int .i64 (((sumB ms N + 7) / 8 : Nat) : Int)) ∧ Below w.heap.size w w' := by
  have HM : Hid (MsAt w gm ms) := hM
  have HF : Hid (∀ W, Calls Tryz.prog 21 #[.int .i64 ((sumB ms N : Nat) : Int)] W fun e w' => e = .returned (.int .i64 (((sumB ms N + 7) / 8 : Nat) : Int)) ∧ w' = W) := fun W => bytesFor_any _ W (by omega)
  clear hM
  go_enter Tryz.func19, Tryz.ntmps19
  go_wp2_with fail
  go_loopw [3, 8] (fun cv iv wr => ∃ k : Nat, k ≤ N ∧ iv = .int .i64 (k : Int) ∧ cv = .int .i64 ((sumB ms k : Nat) : Int) ∧ Hid (Below w.heap.size w wr)) (fun _ iv _ => N - (intOf iv).toNat)
  case atStart => exact ⟨0, Nat.zero_le _, rfl, rfl, Below.refl _ _⟩
  case round =>
    obtain ⟨k, hk, rfl, rfl, HB⟩ := hrel
    by_cases hkN : k < N
    · have gk : (k : Int) < (N : Int) := by omega
      have gk0 : (0 : Int) ≤ (k : Int) := by omega
      obtain ⟨x, hx⟩ : ∃ x, ms[k]? = some x := ⟨_, List.getElem?_eq_getElem (by omega)⟩
      obtain ⟨c0, c1, c2⟩ := (HM.out.next HB.out) k x hx
      have SS : Hid (sumB ms (k + 1) = sumB ms k + x.b) := sumB_succ hx
      have SL : Hid (sumB ms (k + 1) ≤ 64) := Nat.le_trans (sumB_le ms (by omega)) hs
      obtain ⟨sk, hsk⟩ : ∃ sk, Hid (sk = sumB ms k) := ⟨_, rfl⟩
      rw [← hsk.out] at SS ⊢
      have wk : IntKind.i64.wrap ((k : Int) + 1) = ((k + 1 : Nat) : Int) := by rw [IntKind.wrap_i64]; omega
      have ws : IntKind.i64.wrap ((sk : Int) + (x.b : Int)) = ((sk + x.b : Nat) : Int) := by have := SS.out; have := SL.out; rw [IntKind.wrap_i64]; omega
      have BA : Hid (∀ o, Below w.heap.size w (wr.alloc o)) := fun o => Below.al HB.out o
      clear hx
      go_wp2_with fail
      exact ⟨⟨k + 1, by omega, by go_num, by rw [SS.out]; go_num, BA.out _⟩, by simp [intOf]; omega⟩
    · obtain rfl : k = N := by omega
      go_wp2_with fail
      refine (HF.out _).mono ?_
      rintro e w2 ⟨rfl, rfl⟩
      go_wp2_with fail
      go_ret
      exact ⟨rfl, HB.out⟩
#print axioms check_ok
#print axioms size_ok
end Go.Proofs.YtajllkkbgpijiaaGreatDoor
namespace Go.Proofs.YtajllkkbgpijiaaGreatDoor
open Go.RowKit

/-- Rows of noughts. -/
def zC (R : Nat) : Array Value := ((List.replicate R (0 : Int)).map (Value.int .u8)).toArray
theorem infoU : (Tryz.prog.info? 5).map (fun i => (i.zero, i.size, i.bytes)) = some (some (.int .u8 0), 1, 1) := by kernel_rfl
theorem made_zC (R : Nat) : madeCells (Value.int .u8 0).cells R = zC R := by
  apply Array.ext
  · simp [madeCells, zC]
  · intro i h1 h2
    simp [madeCells, zC, Value.cells, Nat.mod_one]
theorem mkZ (R : Nat) (h : R ≤ 16777216) (W : World) : (Instr.makeSlice 24 (.int .i64 (R : Int)) (.int .i64 (R : Int))).run Tryz.prog W = .ok (.slice (some ⟨W.heap.size, 0, none⟩) R R) (W.alloc (.cells (zC R) 5)) := by
  obtain ⟨i, hi, hz0, hz1, hz2⟩ := info_parts infoU
  have := run_makeSlice (P := Tryz.prog) W 24 5 i (.int .u8 0) Tryz.underlying24 hi hz0 .i64 .i64 R R (by omega) (by omega) (by rw [hz1]; omega) (by rw [hz2]; omega) (by omega)
  rw [this, Int.toNat_natCast, hz1, Nat.mul_one, made_zC]
/-- The value of a Map, in memory. -/
def VaOk (W : World) (lst : Mp) (val : Int → Int → List Int) (x : Mq) : Prop := ∃ nm t rt d ld cd l ll cl h lh ch tg gr v lv cv, lookP lst x.i x.s = some (.agg (itC x.i x.s nm t rt d ld cd l ll cl h lh ch tg gr v lv cv)) ∧ SlOk W v lv cv (val x.i x.s) ∧ lv ≤ 1000 ∧ x.b ≤ 8 * lv ∧ (bits .and .u8 rt 1 != 0) = true
theorem VaOk.next {W W' : World} {lst : Mp} {val : Int → Int → List Int} {x : Mq} (h : VaOk W lst val x) (hb : Below W.heap.size W W') : VaOk W' lst val x := by
  obtain ⟨nm, t, rt, d, ld, cd, l, ll, cl, h, lh, ch, tg, gr, v, lv, cv, h1, r1, r⟩ := h
  exact ⟨nm, t, rt, d, ld, cd, l, ll, cl, h, lh, ch, tg, gr, v, lv, cv, h1, r1.next hb, r⟩
theorem read_mp {W : World} {lst : Mp} {val : Int → Int → List Int} {x : Mq} {p m : Nat} {cg : Int} (h : VaOk W lst val x) (hp : W.heap[p]? = some (.cells #[.map (some m), .int .i64 cg] 91 (0, 0))) (hm : IsM W m lst) :
    Calls Tryz.prog 40 #[.pointer (some ⟨p, 0, none⟩), plV x.i x.s] W fun e w' => ∃ a' lv cap', e = .returned (.tuple #[.slice a' lv cap', .int .u32 0]) ∧ Told W w' a' lv cap' (val x.i x.s) ∧ lv ≤ 1000 ∧ x.b ≤ 8 * lv ∧ Below W.heap.size W w' := by
  obtain ⟨nm, t, rt, d, ld, cd, l, ll, cl, h, lh, ch, tg, gr, v, lv, cv, h1, r1, g1, g2, hr⟩ := h
  refine (read_at p m cg lst x.i x.s nm t rt d ld cd l ll cl h lh ch tg gr v lv cv (val x.i x.s) W hp hm h1 r1 (by omega) hr).mono ?_
  rintro e w' ⟨⟨a', cap', rfl, ht⟩, hb⟩
  exact ⟨a', lv, cap', rfl, ht, g1, g2, hb⟩
/-- What has been packed of the first ones. -/
def pk (ms : List Mq) (val : Int → Int → List Int) (R : Nat) : Nat → List Int
  | 0 => List.replicate R 0
  | k + 1 => match ms[k]? with
    | some x => layB (val x.i x.s) 0 x.b (sumB ms k) (pk ms val R k)
    | none => pk ms val R k
theorem pk_succ {ms : List Mq} {val : Int → Int → List Int} {R k : Nat} {x : Mq} (h : ms[k]? = some x) : pk ms val R (k + 1) = layB (val x.i x.s) 0 x.b (sumB ms k) (pk ms val R k) := by
  simp only [pk, h]
theorem pk_len (ms : List Mq) (val : Int → Int → List Int) (R k : Nat) : (pk ms val R k).length = R := by
  induction k with
  | zero => simp [pk]
  | succ k ih =>
    cases h : ms[k]? with
    | none =>
      have e : pk ms val R (k + 1) = pk ms val R k := by
        simp only [pk, h]
      rw [e]
      exact ih
    | some x => rw [pk_succ h]; unfold layB; rw [layL_len]; exact ih

set_option linter.unusedSimpArgs false in
set_option maxHeartbeats 4000000 in
set_option maxRecDepth 100000 in
theorem pack_ok (p m : Nat) (cg : Int) (lst : Mp) (gm N cap : Nat) (ms : List Mq) (val : Int → Int → List Int) (w : World) (hp : w.heap[p]? = some (.cells #[.map (some m), .int .i64 cg] 91 (0, 0))) (hm : IsM w m lst) (hN : ms.length = N) (h64 : N ≤ 64) (hM : MsAt w gm ms) (hO : ∀ x ∈ ms, MpOk w lst true x) (hV : ∀ x ∈ ms, VaOk w lst val x) (hs : sumB ms N ≤ 64) :
    Calls Tryz.prog 15 #[.pointer (some ⟨p, 0, none⟩), .slice (some ⟨gm, 0, none⟩) N cap] w fun e w' => ∃ g, e = .returned (.tuple #[.slice (some ⟨g, 0, none⟩) ((sumB ms N + 7) / 8) ((sumB ms N + 7) / 8), .int .u32 0]) ∧ w.heap.size ≤ g ∧ w'.heap[g]? = some (.cells ((pk ms val ((sumB ms N + 7) / 8) N).map (Value.int .u8)).toArray 5 (0, 0)) ∧ Below w.heap.size w w' := by
  obtain ⟨R, hR⟩ : ∃ R, Hid (R = (sumB ms N + 7) / 8) := ⟨_, rfl⟩
  rw [← hR.out]
  have HC : Hid (Calls Tryz.prog 18 #[.pointer (some ⟨p, 0, none⟩), .slice (some ⟨gm, 0, none⟩) N cap, .bool true] w fun e w' => e = .returned (.int .u32 0) ∧ Below w.heap.size w w') := check_ok true p m cg lst gm N cap ms w hp hm hN h64 hM hO hs
  have HS : Hid (∀ W, Below w.heap.size w W → Calls Tryz.prog 19 #[.slice (some ⟨gm, 0, none⟩) N cap] W fun e w' => e = .returned (.int .i64 (R : Int)) ∧ Below W.heap.size W w') := fun W hb => by rw [hR.out]; exact size_ok gm N cap ms W hN h64 (hM.next hb) hs
  have HRd : Hid (∀ W, Below w.heap.size w W → ∀ x ∈ ms, Calls Tryz.prog 40 #[.pointer (some ⟨p, 0, none⟩), plV x.i x.s] W fun e w' => ∃ a' lv cap', e = .returned (.tuple #[.slice a' lv cap', .int .u32 0]) ∧ Told W w' a' lv cap' (val x.i x.s) ∧ lv ≤ 1000 ∧ x.b ≤ 8 * lv ∧ Below W.heap.size W w') := fun W hb x hx => read_mp ((hV x hx).next hb) (blk11 hb hp) (hm.next hb)
  have HM : Hid (MsAt w gm ms) := hM
  have hR8 : R ≤ 8 := by have := hR.out; omega
  have MK := mkZ R (by omega)
  clear hp hm hM hO hV
  go_enter Tryz.func15, Tryz.ntmps15
  go_wp2_with fail
  refine HC.out.mono ?_
  rintro e w1 ⟨rfl, hb1⟩
  have B1 : Hid (Below w.heap.size w w1) := hb1
  clear hb1
  go_wp2_with fail
  refine (HS.out _ B1.out).mono ?_
  rintro e w2 ⟨rfl, hb2⟩
  have B2 : Hid (Below w.heap.size w w2) := Below.andThen B1.out hb2
  clear hb2
  go_wp2_with fail
  obtain ⟨g, hg⟩ : ∃ g, Hid (g = w2.heap.size) := ⟨_, rfl⟩
  rw [← hg.out]
  go_loopw [8, 24] (fun ev iv wr => ∃ k : Nat, k ≤ N ∧ iv = .int .i64 (k : Int) ∧ ev = .int .i64 ((sumB ms k : Nat) : Int) ∧ Hid (wr.heap[g]? = some (.cells ((pk ms val R k).map (Value.int .u8)).toArray 5 (0, 0)) ∧ Below w.heap.size w wr)) (fun _ iv _ => N - (intOf iv).toNat)
  case atStart => exact ⟨0, Nat.zero_le _, rfl, rfl, by rw [hg.out]; exact heap_new _ _, Below.al B2.out _⟩
  case round =>
    obtain ⟨k, hk, rfl, rfl, HR⟩ := hrel
    by_cases hkN : k < N
    · have gk : (k : Int) < (N : Int) := by omega
      have gk0 : (0 : Int) ≤ (k : Int) := by omega
      obtain ⟨x, hx⟩ : ∃ x, ms[k]? = some x := ⟨_, List.getElem?_eq_getElem (by omega)⟩
      obtain ⟨c0, c1, c2⟩ := (HM.out.next HR.out.2) k x hx
      have SS : Hid (sumB ms (k + 1) = sumB ms k + x.b) := sumB_succ hx
      have SL : Hid (sumB ms (k + 1) ≤ sumB ms N) := sumB_le ms (by omega)
      have PS : Hid (pk ms val R (k + 1) = layB (val x.i x.s) 0 x.b (sumB ms k) (pk ms val R k)) := pk_succ hx
      obtain ⟨sk, hsk⟩ : ∃ sk, Hid (sk = sumB ms k) := ⟨_, rfl⟩
      rw [← hsk.out] at SS PS ⊢
      have HX : Hid (x ∈ ms) := List.mem_of_getElem? hx
      have wk : IntKind.i64.wrap ((k : Int) + 1) = ((k + 1 : Nat) : Int) := by rw [IntKind.wrap_i64]; omega
      have ws : IntKind.i64.wrap ((sk : Int) + (x.b : Int)) = ((sk + x.b : Nat) : Int) := by have := SS.out; have := SL.out; rw [IntKind.wrap_i64]; omega
      have lgr := lt_of_heap HR.out.1
      clear hx
      go_wp2_with fail
      refine (HRd.out _ (Below.al HR.out.2 _) x HX.out).mono ?_
      rintro e w3 ⟨a', lv, cap', rfl, ht, l1, l2, hb⟩
      have B3 : Hid (Below w.heap.size w w3) := Below.andThen (Below.al HR.out.2 _) hb
      have X3 : Hid (w3.heap[wr.heap.size]? = some (.cells #[.int .u16 x.i, .int .u8 x.s, .int .i64 (x.b : Int)] 73 (0, 0))) := blk11 hb (at11 _ _ _ rfl)
      have G3 : Hid (w3.heap[g]? = some (.cells ((pk ms val R k).map (Value.int .u8)).toArray 5 (0, 0))) := blk11 hb (ext11 HR.out.1)
      have T3 : Hid (Told (wr.alloc (.cells #[.int .u16 x.i, .int .u8 x.s, .int .i64 (x.b : Int)] 73)) w3 a' lv cap' (val x.i x.s)) := ht
      have d2 : w3.cell? ⟨wr.heap.size, 2, none⟩ = some (.int .i64 (x.b : Int)) := by rw [cell_of_row _ _ 2 _ _ _ X3.out]; rfl
      have lw := lt_of_heap X3.out
      clear hb c0 c1 c2 ht
      go_wp2_with fail
      refine (bits_any a' lv cap' 0 x.b w3).mono ?_
      rintro e w4 ⟨rfl, rfl⟩
      go_wp2_with fail
      have hpl := pk_len ms val R k
      have lg3 := lt_of_heap G3.out
      refine (lay_any _ (w3.heap.size + 1 + 1) (w3.heap.size + 1) w3.heap.size g R 0 sk x.b a' lv cap' (val x.i x.s) (pk ms val R k) (by omega) (by omega) (by have := SS.out; have := SL.out; have := hR.out; omega) (by omega) hpl (by omega) (by omega) (by omega) ?_ ?_ (ext11 (ext11 (ext11 G3.out)))).mono ?_
      · intro hp b o e
        obtain ⟨g', hg', hge, _⟩ := T3.out.own hp
        rw [e] at hg'
        cases hg'
        simp at hge
        omega
      · exact ⟨at11 _ _ _ (by simp), ext11 (at11 _ _ _ (by simp)), ext11 (ext11 (at11 _ _ _ rfl)), T3.out.row.next (by repeat (first | exact Below.refl _ _ | apply Below.drew | apply Below.al))⟩
      rintro e w5 ⟨rfl, h5, k5⟩
      have B5 : Hid (Below w.heap.size w w5) := Kp.below (Below.al (Below.al (Below.al B3.out _) _) _) k5 (by have := B3.out.size; simp; omega) (by have := hg.out; have := B2.out.size; simp; omega)
      have G5 : Hid (w5.heap[g]? = some (.cells ((pk ms val R (k + 1)).map (Value.int .u8)).toArray 5 (0, 0))) := by rw [PS.out]; exact h5
      have X5 : Hid (w5.heap[wr.heap.size]? = some (.cells #[.int .u16 x.i, .int .u8 x.s, .int .i64 (x.b : Int)] 73 (0, 0))) := k5.at (by simp; omega) (ext11 (ext11 (ext11 X3.out)))
      have d5 : w5.cell? ⟨wr.heap.size, 2, none⟩ = some (.int .i64 (x.b : Int)) := by rw [cell_of_row _ _ 2 _ _ _ X5.out]; rfl
      clear h5 k5 d2
      go_wp2_with fail
      exact ⟨⟨k + 1, by omega, by go_num, by rw [SS.out]; go_num, G5.out, B5.out⟩, by simp [intOf]; omega⟩
    · obtain rfl : k = N := by omega
      go_wp2_with fail
      go_ret2
      exact ⟨g, rfl, by have := hg.out; have := B2.out.size; omega, HR.out.1, HR.out.2⟩
#print axioms pack_ok
end Go.Proofs.YtajllkkbgpijiaaGreatDoor
namespace Go.Proofs.YtajllkkbgpijiaaGreatDoor
open Go.RowKit

/-- The bytes of bits of a row. -/
def tkB (zs : List Int) (nx n : Nat) : List Int := layB zs nx n 0 (List.replicate ((n + 7) / 8) 0)
theorem tkB_len (zs : List Int) (nx n : Nat) : (tkB zs nx n).length = (n + 7) / 8 := by unfold tkB layB; rw [layL_len]; simp

set_option linter.unusedSimpArgs false in
set_option maxHeartbeats 4000000 in
set_option maxRecDepth 100000 in
theorem take_any (n nx Bb Bx : Nat) (a : Option Addr) (len cap : Nat) (zs : List Int) (w : World) (hb : w.heap[Bb]? = some (.cells #[.slice a len cap] 24 (0, 0))) (hx : w.heap[Bx]? = some (.cells #[.int .i64 (nx : Int)] 3 (0, 0))) (hr : Row w a len zs) (hn : n ≤ 64) (hl : nx + n ≤ 8 * len) (hlen : len ≤ 1000000) :
    Calls Tryz.prog 20 #[.int .i64 (n : Int), .pointer (some ⟨Bb, 0, none⟩), .pointer (some ⟨Bx, 0, none⟩)] w fun e w' => ∃ g, e = .returned (.slice (some ⟨g, 0, none⟩) ((n + 7) / 8) ((n + 7) / 8)) ∧ w.heap.size ≤ g ∧ w'.heap[g]? = some (.cells ((tkB zs nx n).map (Value.int .u8)).toArray 5 (0, 0)) ∧ w'.heap[Bx]? = some (.cells #[.int .i64 ((nx + n : Nat) : Int)] 3 (0, 0)) ∧ Kp [Bx] w w' := by
  obtain ⟨R, hR⟩ : ∃ R, Hid (R = (n + 7) / 8) := ⟨_, rfl⟩
  rw [← hR.out]
  have HF : Hid (∀ W, Calls Tryz.prog 21 #[.int .i64 (n : Int)] W fun e w' => e = .returned (.int .i64 (R : Int)) ∧ w' = W) := fun W => by rw [hR.out]; exact bytesFor_any n W (by omega)
  have MK := mkZ R (by have := hR.out; omega)
  have HB : Hid (w.heap[Bb]? = some (.cells #[.slice a len cap] 24 (0, 0))) := hb
  have HX : Hid (w.heap[Bx]? = some (.cells #[.int .i64 (nx : Int)] 3 (0, 0))) := hx
  have HW : Hid (Row w a len zs) := hr
  have lb := lt_of_heap hb
  have lx := lt_of_heap hx
  have c0 : w.cell? ⟨Bb, 0, none⟩ = some (.slice a len cap) := by rw [cell_of_row _ _ 0 _ _ _ hb]; rfl
  have c1 : w.cell? ⟨Bx, 0, none⟩ = some (.int .i64 (nx : Int)) := by rw [cell_of_row _ _ 0 _ _ _ hx]; rfl
  clear hb hx hr
  go_enter Tryz.func20, Tryz.ntmps20
  go_wp2_with fail
  refine (HF.out _).mono ?_
  rintro e w1 ⟨rfl, rfl⟩
  go_wp2_with fail
  refine (bits_any a len cap nx n _).mono ?_
  rintro e w2 ⟨rfl, rfl⟩
  go_wp2_with fail
  obtain ⟨V, HV⟩ : ∃ V, Hid (w1.alloc (.cells (zC R) 5) = V) := ⟨_, rfl⟩
  have BV : Hid (Below w1.heap.size w1 V) := by show Below _ _ _; rw [← HV.out]; exact (by repeat (first | exact Below.refl _ _ | apply Below.drew | apply Below.al))
  have SV : Hid (V.heap.size = w1.heap.size + 1) := by show _ = _; rw [← HV.out]; simp
  have GV : Hid (V.heap[w1.heap.size]? = some (.cells ((List.replicate R (0 : Int)).map (Value.int .u8)).toArray 5 (0, 0))) := by show _ = _; rw [← HV.out]; exact heap_new _ _
  have old : Hid (0 < len → ∀ b o, a = some ⟨b, o, none⟩ → b < w1.heap.size) := fun hp b o e => HW.out.old hp b o e
  rw [show w1.alloc (.cells (zC R) 5) = V from HV.out]
  have sv := SV.out
  refine (lay_any _ (w1.heap.size + 1 + 1 + 1) (w1.heap.size + 1 + 1) (w1.heap.size + 1) w1.heap.size R nx 0 n a len cap zs (List.replicate R 0) (by omega) hlen (by have := hR.out; omega) (by have := hR.out; omega) (by simp) (by omega) (by omega) (by omega) ?_ ?_ (ext11 (ext11 (ext11 GV.out)))).mono ?_
  · intro hp b o e
    have := old.out hp b o e
    omega
  · exact ⟨at11 _ _ _ (by simp; omega), ext11 (at11 _ _ _ (by simp; omega)), ext11 (ext11 (at11 _ _ _ sv.symm)), (HW.out.next BV.out).next (by repeat (first | exact Below.refl _ _ | apply Below.drew | apply Below.al))⟩
  rintro e w5 ⟨rfl, h5, k5⟩
  have X5 : Hid (w5.heap[Bx]? = some (.cells #[.int .i64 (nx : Int)] 3 (0, 0))) := k5.at (by simp; omega) (ext11 (ext11 (ext11 (blk11 BV.out HX.out))))
  have d1 : w5.cell? ⟨Bx, 0, none⟩ = some (.int .i64 (nx : Int)) := by rw [cell_of_row _ _ 0 _ _ _ X5.out]; rfl
  have f1 : w5.frozen? ⟨Bx, 0, none⟩ = false := frozen_of_row _ _ _ _ _ X5.out
  have H5 : Hid (w5.heap[w1.heap.size]? = some (.cells ((tkB zs nx n).map (Value.int .u8)).toArray 5 (0, 0))) := by
    show _ = _
    unfold tkB
    rw [← hR.out]
    exact h5
  have K5 : Hid (Below w1.heap.size w1 w5) := Kp.below (Below.al (Below.al (Below.al BV.out _) _) _) k5 (by have := BV.out.size; simp; omega) (by simp)
  have wn : IntKind.i64.wrap ((nx : Int) + (n : Int)) = ((nx + n : Nat) : Int) := by rw [IntKind.wrap_i64]; omega
  clear h5 k5 c0 c1
  go_wp2_with fail
  go_ret
  refine ⟨w1.heap.size, rfl, Nat.le_refl _, ?_, ?_, ?_⟩
  · exact (heap_setCell_other _ _ _ _ (by show ¬ w1.heap.size = Bx; omega)).trans H5.out
  · rw [heap_setCell_same w5 Bx 0 _ _ _ X5.out]
    simp
  · exact (Kp.of K5.out).set _ _ (.inl (by simp))
#print axioms take_any
end Go.Proofs.YtajllkkbgpijiaaGreatDoor
namespace Go.Proofs.YtajllkkbgpijiaaGreatDoor
open Go.RowKit

/-- A value for a place, in a block of its own. -/
structure Vq where
  i : Int
  s : Int
  g : Nat
  r : Nat
/-- Its cells. -/
abbrev Vq.A (x : Vq) : Array Value := #[.int .u16 x.i, .int .u8 x.s, .slice (some ⟨x.g, 0, none⟩) x.r x.r]
def Vq.L (x : Vq) : List Value := x.A.toList
/-- The cells of a row of them. -/
def flv (l : List Vq) : List Value := l.flatMap Vq.L
theorem Vq.L_len (x : Vq) : x.L.length = 3 := rfl
theorem flv_len (l : List Vq) : (flv l).length = l.length * 3 := by
  unfold flv
  induction l with
  | nil => rfl
  | cons x l ih => rw [List.flatMap_cons, List.length_append, ih, Vq.L_len, List.length_cons]; omega
theorem flv_app (l m : List Vq) : flv (l ++ m) = flv l ++ flv m := by unfold flv; rw [List.flatMap_append]
theorem flv_one (x : Vq) : flv [x] = x.L := by unfold flv; simp
theorem flv_at (l : List Vq) (i : Nat) (x : Vq) (h : l[i]? = some x) : ((flv l).drop (i * 3)).take 3 = x.L := by
  obtain ⟨hi, he⟩ := List.getElem?_eq_some_iff.1 h
  have e : l = l.take i ++ (x :: l.drop (i + 1)) := by rw [← he, List.getElem_cons_drop, List.take_append_drop]
  have e2 : flv l = flv (l.take i) ++ (x.L ++ flv (l.drop (i + 1))) := by
    conv => lhs; rw [e]
    rw [flv_app]
    rfl
  have hl : (flv (l.take i)).length = i * 3 := by rw [flv_len, List.length_take]; congr 1; omega
  rw [e2, List.drop_append_of_le_length (by omega), List.drop_of_length_le (by omega), List.nil_append, List.take_append_of_le_length (by rw [Vq.L_len]; omega), List.take_of_length_le (by rw [Vq.L_len]; omega)]
theorem sizeV : (Tryz.prog.info? 45).map (·.size) = some 3 := by kernel_rfl
theorem aggV : ∀ w, (isAgg 45).run Tryz.prog w = .ok true w := fun w => by simp [isAgg, run_underlying Tryz.underlying45]
/-- What waits, in memory of its own. -/
abbrev IsV (w : World) (base : Nat) (v : Value) (l : List Vq) : Prop := w.ownsRow base 45 3 v l.length (flv l)
theorem IsV.form {w : World} {base : Nat} {v : Value} {l : List Vq} (h : IsV w base v l) : (v = .slice none 0 0 ∧ l = []) ∨ ∃ g cap cur, v = .slice (some ⟨g, 0, none⟩) l.length cap ∧ base ≤ g ∧ w.heap[g]? = some (.cells cur 45 (0, 0)) ∧ l.length ≤ cap ∧ cap ≤ maxLen ∧ cur.size = cap * 3 ∧ cur.toList.take (l.length * 3) = flv l := by
  rcases h.2 with ⟨h1, h2⟩ | ⟨g, cap, cur, hv, hg, hh, hn, hm, hs, ht⟩
  · exact .inl ⟨h1, List.eq_nil_of_length_eq_zero h2⟩
  · exact .inr ⟨g, cap, cur, hv, hg, hh, hn, hm, hs, ht⟩
/-- One of them out of memory. -/
theorem IsV.load {w : World} {base g cap : Nat} {l : List Vq} (h : IsV w base (.slice (some ⟨g, 0, none⟩) l.length cap) l) (i : Nat) (x : Vq) (hx : l[i]? = some x) : (loadVar 45 ⟨g, i * 3, none⟩).run Tryz.prog w = .ok (.agg x.A) w := by
  have hi : i < l.length := (List.getElem?_eq_some_iff.1 hx).1
  rcases h.form with ⟨h1, _⟩ | ⟨g', cap', cur, hv, _, hh, hn, _, hs, ht⟩
  · cases h1
  · cases hv
    have := load_part 45 3 sizeV aggV w g (i * 3) cur.toList 45 hh (by simp [hs]; omega)
    rw [this]
    have e : (cur.toList.drop (i * 3)).take 3 = x.L := by
      rw [← flv_at l i x hx, ← ht, List.drop_take, List.take_take, Nat.min_eq_left (by omega)]
    rw [e]
    rfl

theorem infoV : (Tryz.prog.info? 45).map (fun i => (i.zero, i.size, i.bytes)) = some (some (.agg #[.int .u16 0, .int .u8 0, .slice none 0 0]), 3, 32) := by kernel_rfl
theorem isV_nil (w : World) (b : Nat) : IsV w b (.slice none 0 0) [] := ⟨rfl, .inl ⟨rfl, rfl⟩⟩
theorem IsV.ne {w : World} {base b : Nat} {v : Value} {us : List Vq} {C : Array Value} {T : TypeId} {f : Nat × Nat} (h : IsV w base v us) (hb : w.heap[b]? = some (.cells C T f)) (hT : T ≠ 45) : some b ≠ v.ownBlock := by
  rcases h.2 with ⟨h1, _⟩ | ⟨g, cap, cur, hv, _, hh, _⟩
  · rw [h1]; intro e; cases e
  · rw [hv]
    intro e
    simp only [Value.ownBlock] at e
    cases e
    rw [hh] at hb
    cases hb
    exact hT rfl
theorem IsV.same {w w' : World} {base : Nat} {v : Value} {l : List Vq} (h : IsV w base v l) (hk : ∀ k, v.ownBlock = some k → w'.heap[k]? = w.heap[k]?) : IsV w' base v l := by
  refine ⟨h.1, ?_⟩
  rcases h.2 with ⟨h1, h2⟩ | ⟨g, cap, cur, hv, hb, hh, r⟩
  · exact .inl ⟨h1, h2⟩
  · exact .inr ⟨g, cap, cur, hv, hb, (hk g (by rw [hv]; rfl)).trans hh, r⟩
theorem IsV.next {w w' : World} {base : Nat} {v : Value} {l : List Vq} (h : IsV w base v l) (hb : Below w.heap.size w w') : IsV w' base v l := h.same fun k hk => hb.block k (h.lt k hk).2
/-- One value put behind those of a row of its own. -/
theorem wpList_append_value {ops : Array Oper} {rest : List Oper} {o : Oper} {a : Act} {w : World} {Q : Exit → Act → World → Prop} (hgd : o.guard = none) (s x : Operand)
    (ho : o.op = .call { callee := .builtin .append, args := #[s, x], argTypes := #[31, 31] }) (base : Nat) (v : Value) (l : List Vq) (hs : a.eval s = v) (hown : IsV w base v l)
    (ad : Addr) (y : Vq) (hx : a.eval x = .slice (some ad) 1 1) (hnews : ∀ j u, y.L[j]? = some u → w.cell? (ad.add j) = some u) (h63 : l.length ≤ 1000000) (hbase : base ≤ w.heap.size)
    (h : ∀ v' w', IsV w' base v' (l ++ [y]) → w.grownBy w' v.ownBlock → wpList Tryz.prog ops Q rest (a.put o.dst v') w') : wpList Tryz.prog ops Q (o :: rest) a w := by
  obtain ⟨i0, hi, hz0, hz1, hz2⟩ := info_parts infoV
  refine wpList_append_own (P := Tryz.prog) w hgd s x 31 ho base 45 i0 _ 3 32 Tryz.underlying31 hi hz0 hz1 hz2 rfl (by decide) v l.length _ hs hown ad 1 1 y.L hx (Vq.L_len y) hnews (fun u hu => by simp [Vq.L] at hu; rcases hu with rfl | rfl | rfl <;> rfl) (by unfold maxLen; omega) (by omega) hbase ?_
  intro v' w' h1 h2 _
  refine h v' w' ?_ h2
  show w'.ownsRow base 45 3 v' (l ++ [y]).length (flv (l ++ [y]))
  rw [flv_app, flv_one, List.length_append]
  exact h1

set_option linter.unusedSimpArgs false in
set_option maxHeartbeats 4000000 in
set_option maxRecDepth 100000 in
theorem unpack_ok (p m : Nat) (cg : Int) (lst : Mp) (gm N cap : Nat) (ms : List Mq) (a : Option Addr) (len capb : Nat) (zs : List Int) (w : World) (hp : w.heap[p]? = some (.cells #[.map (some m), .int .i64 cg] 91 (0, 0))) (hm : IsM w m lst) (hN : ms.length = N) (h64 : N ≤ 64) (hM : MsAt w gm ms) (hO : ∀ x ∈ ms, MpOk w lst false x) (hs : sumB ms N ≤ 64) (hr : Row w a len zs) (hlen : (sumB ms N + 7) / 8 ≤ len) (hlen2 : len ≤ 1000)
    (HMay : ∀ W, Below w.heap.size w W → ∀ k x g, ms[k]? = some x → W.heap[g]? = some (.cells ((tkB zs (sumB ms k) x.b).map (Value.int .u8)).toArray 5 (0, 0)) → Calls Tryz.prog 25 #[.pointer (some ⟨p, 0, none⟩), plV x.i x.s, .slice (some ⟨g, 0, none⟩) ((x.b + 7) / 8) ((x.b + 7) / 8)] W fun e w' => ∃ tg, e = .returned (.tuple #[.int .u8 tg, .int .u32 0]) ∧ Below W.heap.size W w') :
    Calls Tryz.prog 7 #[.pointer (some ⟨p, 0, none⟩), .slice (some ⟨gm, 0, none⟩) N cap, .slice a len capb] w fun e w' => ∃ v us, e = .returned (.tuple #[v, .int .u32 0]) ∧ IsV w' w.heap.size v us ∧ us.length = N ∧ (∀ j x, j < N → ms[j]? = some x → ∃ g, us[j]? = some ⟨x.i, x.s, g, (x.b + 7) / 8⟩ ∧ w.heap.size ≤ g ∧ w'.heap[g]? = some (.cells ((tkB zs (sumB ms j) x.b).map (Value.int .u8)).toArray 5 (0, 0))) ∧ Below w.heap.size w w' := by
  obtain ⟨R, hR⟩ : ∃ R, Hid (R = (sumB ms N + 7) / 8) := ⟨_, rfl⟩
  have HC : Hid (∀ W, Below w.heap.size w W → Calls Tryz.prog 18 #[.pointer (some ⟨p, 0, none⟩), .slice (some ⟨gm, 0, none⟩) N cap, .bool false] W fun e w' => e = .returned (.int .u32 0) ∧ Below W.heap.size W w') := fun W hb => check_ok false p m cg lst gm N cap ms W (blk11 hb hp) (hm.next hb) hN h64 (hM.next hb) (fun x hx => (hO x hx).next hb) hs
  have HS : Hid (∀ W, Below w.heap.size w W → Calls Tryz.prog 19 #[.slice (some ⟨gm, 0, none⟩) N cap] W fun e w' => e = .returned (.int .i64 (R : Int)) ∧ Below W.heap.size W w') := fun W hb => by rw [hR.out]; exact size_ok gm N cap ms W hN h64 (hM.next hb) hs
  have HI : Hid (∀ x ∈ ms, 256 ≤ x.i ∧ x.i < 65536) := fun x hx => by
    obtain ⟨_, _, _, _, _, _, _, _, _, _, _, _, _, _, _, _, _, _, _, _, _, _, _, _, _, _, _, g1, g2, _⟩ := hO x hx
    exact ⟨g1, g2⟩
  have HY : Hid (∀ W, Below w.heap.size w W → ∀ k x g, ms[k]? = some x → W.heap[g]? = some (.cells ((tkB zs (sumB ms k) x.b).map (Value.int .u8)).toArray 5 (0, 0)) → Calls Tryz.prog 25 #[.pointer (some ⟨p, 0, none⟩), plV x.i x.s, .slice (some ⟨g, 0, none⟩) ((x.b + 7) / 8) ((x.b + 7) / 8)] W fun e w' => ∃ tg, e = .returned (.tuple #[.int .u8 tg, .int .u32 0]) ∧ Below W.heap.size W w') := HMay
  have HM : Hid (MsAt w gm ms) := hM
  have HW : Hid (Row w a len zs) := hr
  have hRl : R ≤ len := by have := hR.out; omega
  clear hp hm hM hO hr HMay
  go_enter Tryz.func7, Tryz.ntmps7
  go_wp2_with fail
  refine (HC.out _ (by repeat (first | exact Below.refl _ _ | apply Below.drew | apply Below.al))).mono ?_
  rintro e w1 ⟨rfl, hb1⟩
  have B1 : Hid (Below w.heap.size w w1) := Below.andThen (by repeat (first | exact Below.refl _ _ | apply Below.drew | apply Below.al)) hb1
  have HB1 : Hid (w1.heap[w.heap.size]? = some (.cells #[.slice a len capb] 24 (0, 0))) := blk11 hb1 (at11 _ _ _ rfl)
  clear hb1
  go_wp2_with fail
  refine wp_region_held_drew (S := fun z => Below w1.heap.size w1 z) (by kernel_rfl) (Below.drew (Below.refl _ _)) (fun hHeld => ?_)
  refine tk 0 (.slice a len capb) rfl (.inl ⟨by rfl, ?_⟩) ?_
  · intro w9 hSw
    try dsimp only at hSw
    have c9 : w9.cell? ⟨w.heap.size, 0, none⟩ = some (.slice a len capb) := by rw [cell_of_row _ _ 0 _ _ _ (blk11 hSw HB1.out)]; rfl
    go_simp
    all_goals try assumption
  try simp only [Act.put, gA, gS, gZ, sA, sZ, sS]
  refine tk 1 (.int .i64 (len : Int)) rfl (.inl ⟨by rfl, ?_⟩) ?_
  · intro w9 hSw
    try dsimp only at hSw
    go_simp
    all_goals try decide
    all_goals try assumption
    all_goals try omega
  try simp only [Act.put, gA, gS, gZ, sA, sZ, sS]
  refine tk 2 (.slice (some ⟨gm, 0, none⟩) N cap) rfl (.inl ⟨by rfl, ?_⟩) ?_
  · intro w9 hSw
    try dsimp only at hSw
    go_simp
    all_goals try decide
    all_goals try assumption
    all_goals try omega
  try simp only [Act.put, gA, gS, gZ, sA, sZ, sS]
  refine wpAnyH_ready (rs := [3]) (by kernel_rfl) (by simp) ?_
  refine AllReadyH.cons rfl (fun K' hK => ?_) AllReadyH.nil
  rw [if_pos (by rfl)]
  simp only [gA, gS, gZ]
  go_wp2_with fail
  refine (HS.out _ (Below.andThen B1.out (Below.drew (Below.refl _ _)))).mono ?_
  rintro e z3 ⟨rfl, hb3⟩
  have N3 : Hid (Below w1.heap.size w1 z3) := Below.andThen (Below.drew (Below.refl _ _)) hb3
  clear hb3
  try go_wp2_with fail
  refine hK.out _ _ (N3.out) (fun hHeld => ?_)
  clear hK K'
  try simp only [Act.put, gA, gS, gZ, sA, sZ, sS]
  refine tk 4 (.bool false) rfl (.inl ⟨by rfl, ?_⟩) ?_
  · intro w9 hSw
    try dsimp only at hSw
    have q1 : ¬ ((len : Int) < (R : Int)) := by omega
    go_simp
    all_goals try omega
  try simp only [Act.put, gA, gS, gZ, sA, sZ, sS]
  refine wpAnyH_done (by kernel_rfl) ?_ _
  have B3 : Hid (Below w.heap.size w z3) := Below.andThen B1.out hHeld
  have HB3 : Hid (z3.heap[w.heap.size]? = some (.cells #[.slice a len capb] 24 (0, 0))) := blk11 hHeld HB1.out
  clear hHeld N3
  go_wp2_with fail
  obtain ⟨Bx, hBx⟩ : ∃ Bx, Hid (Bx = z3.heap.size) := ⟨_, rfl⟩
  rw [← hBx.out]
  have BX0 : Hid ((z3.alloc (.cells #[.int .i64 0] 3)).heap[Bx]? = some (.cells #[.int .i64 0] 3 (0, 0))) := by show _ = _; rw [hBx.out]; exact heap_new _ _
  have nBx : Bx ≠ w.heap.size := by have := lt_of_heap HB3.out; have := hBx.out; omega
  have gBx : w.heap.size ≤ Bx := by have := B3.out.size; have := hBx.out; omega
  go_loopw [11, 31] (fun u11 iv wr => ∃ (k : Nat) (us : List Vq), k ≤ N ∧ iv = .int .i64 (k : Int) ∧ Hid (IsV wr w.heap.size u11 us ∧ us.length = k ∧ (∀ j x, j < k → ms[j]? = some x → ∃ g, us[j]? = some ⟨x.i, x.s, g, (x.b + 7) / 8⟩ ∧ w.heap.size ≤ g ∧ wr.heap[g]? = some (.cells ((tkB zs (sumB ms j) x.b).map (Value.int .u8)).toArray 5 (0, 0))) ∧ wr.heap[w.heap.size]? = some (.cells #[.slice a len capb] 24 (0, 0)) ∧ wr.heap[Bx]? = some (.cells #[.int .i64 ((sumB ms k : Nat) : Int)] 3 (0, 0)) ∧ Below w.heap.size w wr)) (fun _ iv _ => N - (intOf iv).toNat)
  case atStart => exact ⟨0, [], Nat.zero_le _, rfl, isV_nil _ _, rfl, fun j x hj => absurd hj (by omega), ext11 HB3.out, BX0.out, Below.al B3.out _⟩
  case round =>
    obtain ⟨k, us, hk, rfl, HR⟩ := hrel
    by_cases hkN : k < N
    · have gk : (k : Int) < (N : Int) := by omega
      have gk0 : (0 : Int) ≤ (k : Int) := by omega
      obtain ⟨x, hx⟩ : ∃ x, ms[k]? = some x := ⟨_, List.getElem?_eq_getElem (by omega)⟩
      obtain ⟨r1, r2, r3, r4, r5, r6⟩ := HR.out
      obtain ⟨c0, c1, c2⟩ := (HM.out.next r6) k x hx
      have hx1 : Hid (ms[k]? = some x) := hx
      have HXm : Hid (x ∈ ms) := List.mem_of_getElem? hx
      have SS : Hid (sumB ms (k + 1) = sumB ms k + x.b) := sumB_succ hx
      have SL : Hid (sumB ms (k + 1) ≤ sumB ms N) := sumB_le ms (by omega)
      have wk : IntKind.i64.wrap ((k : Int) + 1) = ((k + 1 : Nat) : Int) := by rw [IntKind.wrap_i64]; omega
      have R1 : Hid (IsV wr w.heap.size u11 us) := r1
      have R2 : Hid (us.length = k) := r2
      have R3 : Hid (∀ j x, j < k → ms[j]? = some x → ∃ g, us[j]? = some ⟨x.i, x.s, g, (x.b + 7) / 8⟩ ∧ w.heap.size ≤ g ∧ wr.heap[g]? = some (.cells ((tkB zs (sumB ms j) x.b).map (Value.int .u8)).toArray 5 (0, 0))) := r3
      have R4 : Hid (wr.heap[w.heap.size]? = some (.cells #[.slice a len capb] 24 (0, 0))) := r4
      have R5 : Hid (wr.heap[Bx]? = some (.cells #[.int .i64 ((sumB ms k : Nat) : Int)] 3 (0, 0))) := r5
      have R6 : Hid (Below w.heap.size w wr) := r6
      clear r1 r2 r3 r4 r5 r6 HR hx
      go_wp2_with fail
      refine (take_any x.b (sumB ms k) w.heap.size Bx a len capb zs _ (ext11 R4.out) (ext11 R5.out) ((HW.out.next R6.out).next (by repeat (first | exact Below.refl _ _ | apply Below.drew | apply Below.al))) (by have := SS.out; have := SL.out; omega) (by have := SS.out; have := SL.out; have := hR.out; omega) (by omega)).mono ?_
      rintro e w2 ⟨g, rfl, hg, g2, x2, k2⟩
      have lBx : Bx < wr.heap.size := lt_of_heap R5.out
      have hgw : wr.heap.size + 1 ≤ g := by simpa using hg
      have X2 : Hid (w2.heap[wr.heap.size]? = some (.cells #[.int .u16 x.i, .int .u8 x.s, .int .i64 (x.b : Int)] 73 (0, 0))) := k2.at (by simp; omega) (at11 _ _ _ rfl)
      have G2 : Hid (w2.heap[g]? = some (.cells ((tkB zs (sumB ms k) x.b).map (Value.int .u8)).toArray 5 (0, 0))) := g2
      have XX2 : Hid (w2.heap[Bx]? = some (.cells #[.int .i64 ((sumB ms (k + 1) : Nat) : Int)] 3 (0, 0))) := by rw [SS.out]; exact x2
      have B2 : Hid (Below w.heap.size w w2) := Kp.below (Below.al R6.out _) k2 (by have := R6.out.size; simp; omega) (by simp; omega)
      have V2 : Hid (IsV w2 w.heap.size u11 us) := (R1.out.next (Below.al (Below.refl _ _) (.cells #[.int .u16 x.i, .int .u8 x.s, .int .i64 (x.b : Int)] 73))).same fun kk hkk => k2.block kk (by have := (R1.out.lt kk hkk).2; simp; omega) (by
        intro hmm
        simp at hmm
        subst hmm
        exact R1.out.ne R5.out (by decide) hkk.symm)
      have J2 : Hid (∀ j x, j < k → ms[j]? = some x → ∃ g, us[j]? = some ⟨x.i, x.s, g, (x.b + 7) / 8⟩ ∧ w.heap.size ≤ g ∧ w2.heap[g]? = some (.cells ((tkB zs (sumB ms j) x.b).map (Value.int .u8)).toArray 5 (0, 0))) := fun j x hj hx => by
        obtain ⟨g', q1, q2, q3⟩ := R3.out j x hj hx
        refine ⟨g', q1, q2, k2.at ?_ (ext11 q3)⟩
        intro hmm
        simp at hmm
        subst hmm
        rw [R5.out] at q3
        simp at q3
      have A2 : Hid (w2.heap[w.heap.size]? = some (.cells #[.slice a len capb] 24 (0, 0))) := k2.at (by simp; omega) (ext11 R4.out)
      have d0 : w2.cell? ⟨wr.heap.size, 0, none⟩ = some (.int .u16 x.i) := by rw [cell_of_row _ _ 0 _ _ _ X2.out]; rfl
      have d1 : w2.cell? ⟨wr.heap.size, 1, none⟩ = some (.int .u8 x.s) := by rw [cell_of_row _ _ 1 _ _ _ X2.out]; rfl
      have d2 : w2.cell? ⟨wr.heap.size, 2, none⟩ = some (.int .i64 (x.b : Int)) := by rw [cell_of_row _ _ 2 _ _ _ X2.out]; rfl
      have hi := HI.out x HXm.out
      clear hg g2 x2 k2 c0 c1 c2 R1 R3 R4 R5 R6
      go_wp2_with fail
      refine (isGap_no x.i x.s x.b _ hi.1 hi.2).mono ?_
      rintro e w3 ⟨rfl, hb3⟩
      have B3 : Hid (Below w.heap.size w w3) := Below.andThen B2.out hb3
      have N3 : Hid (Below w2.heap.size w2 w3) := hb3
      have X3 := blk11 hb3 X2.out
      have e0 : w3.cell? ⟨wr.heap.size, 0, none⟩ = some (.int .u16 x.i) := by rw [cell_of_row _ _ 0 _ _ _ X3]; rfl
      have e1 : w3.cell? ⟨wr.heap.size, 1, none⟩ = some (.int .u8 x.s) := by rw [cell_of_row _ _ 1 _ _ _ X3]; rfl
      have HX3 : Hid (w3.heap[wr.heap.size]? = some (.cells #[.int .u16 x.i, .int .u8 x.s, .int .i64 (x.b : Int)] 73 (0, 0))) := X3
      clear hb3 d0 d1 d2 X3
      go_wp2_with fail
      refine (HY.out _ B3.out k x g hx1.out (blk11 N3.out G2.out)).mono ?_
      rintro e w4 ⟨tg, rfl, hb4⟩
      have B4 : Hid (Below w.heap.size w w4) := Below.andThen B3.out hb4
      have N4 : Hid (Below w2.heap.size w2 w4) := Below.andThen N3.out hb4
      have X4 := blk11 hb4 HX3.out
      have f0 : w4.cell? ⟨wr.heap.size, 0, none⟩ = some (.int .u16 x.i) := by rw [cell_of_row _ _ 0 _ _ _ X4]; rfl
      have f1 : w4.cell? ⟨wr.heap.size, 1, none⟩ = some (.int .u8 x.s) := by rw [cell_of_row _ _ 1 _ _ _ X4]; rfl
      have V4 : Hid (IsV w4 w.heap.size u11 us) := V2.out.next N4.out
      clear hb4 e0 e1 X4
      have hul : us.length ≤ 1000000 := by have := R2.out; omega
      go_wp2_with (first | (at_builtin; refine wpList_append_value rfl _ _ rfl w.heap.size u11 us rfl (V4.out.next (by repeat (first | exact Below.refl _ _ | apply Below.drew | apply Below.al))) ⟨w4.heap.size, 0, none⟩ ⟨x.i, x.s, g, (x.b + 7) / 8⟩ rfl ?q1 hul ?q2 ?_) | go_in)
      case q1 =>
        intro j u hj
        rw [Addr.add_lit, Nat.zero_add]
        match j, hj with
        | 0, hj => rw [cell_of_row _ _ 0 _ _ _ (at11 _ _ _ rfl)]; simpa [Vq.L] using hj
        | 1, hj => rw [cell_of_row _ _ 1 _ _ _ (at11 _ _ _ rfl)]; simpa [Vq.L] using hj
        | 2, hj => rw [cell_of_row _ _ 2 _ _ _ (at11 _ _ _ rfl)]; simpa [Vq.L] using hj
      case q2 => have := B4.out.size; simp; omega
      intro v' z hz hgr
      have KEEP : ∀ (b : Nat) (C : Array Value) (T : TypeId) (f : Nat × Nat), w4.heap[b]? = some (.cells C T f) → T ≠ 45 → z.heap[b]? = some (.cells C T f) := fun b C T f hb hT => by
        rw [hgr.block b (by have := lt_of_heap hb; simp; omega) (V4.out.ne hb hT), Below.heap_alloc _ _ _ (lt_of_heap hb)]
        exact hb
      have BZ : Hid (Below w.heap.size w z) := ⟨hgr.os.trans B4.out.os, hgr.tape.trans B4.out.tape, hgr.output.trans B4.out.output, by have := hgr.size; simp at this; have := B4.out.size; omega, fun kk hkk => by
        have s4 := B4.out.size
        rw [hgr.block kk (by simp; omega) (fun e => by have := (V4.out.lt kk e.symm).1; omega), Below.heap_alloc _ _ _ (by omega)]
        exact B4.out.block kk hkk⟩
      have FIN : Hid (IsV z w.heap.size v' (us ++ [⟨x.i, x.s, g, (x.b + 7) / 8⟩]) ∧ (us ++ [(⟨x.i, x.s, g, (x.b + 7) / 8⟩ : Vq)]).length = k + 1 ∧ (∀ j x', j < k + 1 → ms[j]? = some x' → ∃ g', (us ++ [(⟨x.i, x.s, g, (x.b + 7) / 8⟩ : Vq)])[j]? = some ⟨x'.i, x'.s, g', (x'.b + 7) / 8⟩ ∧ w.heap.size ≤ g' ∧ z.heap[g']? = some (.cells ((tkB zs (sumB ms j) x'.b).map (Value.int .u8)).toArray 5 (0, 0))) ∧ z.heap[w.heap.size]? = some (.cells #[.slice a len capb] 24 (0, 0)) ∧ z.heap[Bx]? = some (.cells #[.int .i64 ((sumB ms (k + 1) : Nat) : Int)] 3 (0, 0)) ∧ Below w.heap.size w z) := by
        refine ⟨hz, by simp [R2.out], fun j x' hj hx' => ?_, KEEP _ _ _ _ (blk11 N4.out A2.out) (by decide), KEEP _ _ _ _ (blk11 N4.out XX2.out) (by decide), BZ.out⟩
        have hl := R2.out
        rcases Nat.lt_or_ge j k with hjk | hjk
        · obtain ⟨g', q1, q2, q3⟩ := J2.out j x' hjk hx'
          exact ⟨g', by rw [List.getElem?_append_left (by omega)]; exact q1, q2, KEEP _ _ _ _ (blk11 N4.out q3) (by decide)⟩
        · obtain rfl : j = k := by omega
          have e := hx1.out
          rw [hx'] at e
          cases e
          exact ⟨g, by rw [List.getElem?_append_right (by omega), hl]; simp, by have := BZ.out.size; have := B2.out.size; omega, KEEP _ _ _ _ (blk11 N4.out G2.out) (by decide)⟩
      clear hz hgr KEEP f0 f1
      go_wp2_with fail
      exact ⟨⟨k + 1, _, by omega, by go_num, FIN.out⟩, by simp [intOf]; omega⟩
    · obtain rfl : k = N := by omega
      obtain ⟨r1, r2, r3, r4, r5, r6⟩ := HR.out
      have R : Hid (∃ us, IsV wr w.heap.size u11 us ∧ us.length = k ∧ (∀ j x, j < k → ms[j]? = some x → ∃ g, us[j]? = some ⟨x.i, x.s, g, (x.b + 7) / 8⟩ ∧ w.heap.size ≤ g ∧ wr.heap[g]? = some (.cells ((tkB zs (sumB ms j) x.b).map (Value.int .u8)).toArray 5 (0, 0))) ∧ Below w.heap.size w wr) := ⟨us, r1, r2, r3, r6⟩
      clear r1 r2 r3 r4 r5 r6 HR
      go_wp2_with fail
      go_ret2
      obtain ⟨us, q⟩ := R.out
      exact ⟨_, us, rfl, q⟩
#print axioms unpack_ok
end Go.Proofs.YtajllkkbgpijiaaGreatDoor
namespace Go.Proofs.YtajllkkbgpijiaaGreatDoor
open Go.RowKit

/-- Is a Map a gap? -/
def gapB (i s b : Int) : Bool := (i == i % 256 && s == 0) && hasB (i % 256) b

set_option linter.unusedSimpArgs false in
set_option maxHeartbeats 4000000 in
set_option maxRecDepth 100000 in
theorem isGap_any (i s b : Int) (w : World) (_h1 : 0 ≤ i) (_h2 : i < 65536) : Calls Tryz.prog 24 #[mpV i s b] w fun e w' => e = .returned (.bool (gapB i s b)) ∧ Below w.heap.size w w' := by
  obtain ⟨q, hq⟩ : ∃ q, Hid (q = (i == i % 256 && s == 0)) := ⟨_, rfl⟩
  obtain ⟨r, hr⟩ : ∃ r, Hid (r = hasB (i % 256) b) := ⟨_, rfl⟩
  have HR : Hid (gapB i s b = (q && r)) := by show _ = _; unfold gapB; rw [hq.out, hr.out]
  have e1 : IntKind.u8.wrap i = i % 256 := by simp [IntKind.wrap, IntKind.bits, IntKind.signed]
  have e2 : ∀ W, (binOp .eql 43 (plV i s) (plV (i % 256) 0)).run Tryz.prog W = .ok (.bool q) W := fun W => by rw [hq.out]; exact eqlP W i s (i % 256) 0
  have HH : Hid (∀ W, Calls Tryz.prog 47 #[.int .u8 (i % 256), .int .i64 b] W fun e w' => e = .returned (.bool r) ∧ w' = W) := fun W => by rw [hr.out]; exact hasBits_any _ _ W
  cases q with
  | false =>
    go_enter Tryz.func24, Tryz.ntmps24
    go_wp2_with fail
    go_ret
    exact ⟨by rw [HR.out]; rfl, (by repeat (first | exact Below.refl _ _ | apply Below.drew | apply Below.al))⟩
  | true =>
    go_enter Tryz.func24, Tryz.ntmps24
    go_wp2_with fail
    refine (HH.out _).mono ?_
    rintro e w1 ⟨rfl, rfl⟩
    go_wp2_with fail
    go_ret
    exact ⟨by rw [HR.out]; rfl, (by repeat (first | exact Below.refl _ _ | apply Below.drew | apply Below.al))⟩

set_option linter.unusedSimpArgs false in
set_option maxHeartbeats 4000000 in
set_option maxRecDepth 100000 in
theorem fits_any (i s b : Int) (j r : Int) (nm : ByteArray) (t rt : Int) (d : Option Addr) (ld cd : Nat) (l : Option Addr) (ll cl : Nat) (h : Option Addr) (lh ch : Nat) (tg gr : Int) (w : World) :
    Calls Tryz.prog 65 #[mpV i s b, .agg (enC j r nm t rt d ld cd l ll cl h lh ch tg gr)] w fun e w' => e = .returned (.bool ((bits .and .u8 rt 4 != 0) && hasB t b)) ∧ Below w.heap.size w w' := by
  obtain ⟨x, hx⟩ : ∃ x, Hid (x = hasB t b) := ⟨_, rfl⟩
  have HH : Hid (∀ W, Calls Tryz.prog 47 #[.int .u8 t, .int .i64 b] W fun e w' => e = .returned (.bool x) ∧ w' = W) := fun W => by rw [hx.out]; exact hasBits_any t b W
  rw [← hx.out]
  cases h4 : (bits .and .u8 rt 4 != 0) with
  | false =>
    have h5 : bits .and .u8 rt 4 = 0 := by simpa using h4
    go_enter Tryz.func65, Tryz.ntmps65
    go_wp2_with fail
    go_ret
    exact ⟨rfl, (by repeat (first | exact Below.refl _ _ | apply Below.drew | apply Below.al))⟩
  | true =>
    go_enter Tryz.func65, Tryz.ntmps65
    go_wp2_with fail
    refine (HH.out _).mono ?_
    rintro e w1 ⟨rfl, rfl⟩
    go_wp2_with fail
    go_ret
    exact ⟨rfl, (by repeat (first | exact Below.refl _ _ | apply Below.drew | apply Below.al))⟩

set_option linter.unusedSimpArgs false in
set_option maxHeartbeats 4000000 in
set_option maxRecDepth 100000 in
theorem mcheck_gap (out : Bool) (pv : Value) (i s b : Int) (w : World) (h1 : 0 ≤ i) (h2 : i < 65536) (hg : gapB i s b = true) :
    Calls Tryz.prog 45 #[mpV i s b, pv, .bool out] w fun e w' => e = .returned (.int .u32 (if out then 100925505 else 0)) ∧ Below w.heap.size w w' := by
  have HG : Hid (∀ W, Calls Tryz.prog 24 #[mpV i s b] W fun e w' => e = .returned (.bool true) ∧ Below W.heap.size W w') := fun W => by have := isGap_any i s b W h1 h2; rw [hg] at this; exact this
  clear hg
  cases out with
  | false =>
    go_enter Tryz.func45, Tryz.ntmps45
    go_wp2_with fail
    refine (HG.out _).mono ?_
    rintro e w1 ⟨rfl, hb1⟩
    have B1 : Hid (Below w.heap.size w w1) := Below.andThen (by repeat (first | exact Below.refl _ _ | apply Below.drew | apply Below.al)) hb1
    clear hb1
    go_wp2_with fail
    go_ret
    exact ⟨rfl, B1.out⟩
  | true =>
    go_enter Tryz.func45, Tryz.ntmps45
    go_wp2_with fail
    refine (HG.out _).mono ?_
    rintro e w1 ⟨rfl, hb1⟩
    have B1 : Hid (Below w.heap.size w w1) := Below.andThen (by repeat (first | exact Below.refl _ _ | apply Below.drew | apply Below.al)) hb1
    clear hb1
    go_wp2_with fail
    go_ret
    exact ⟨rfl, B1.out⟩

set_option linter.unusedSimpArgs false in
set_option maxHeartbeats 4000000 in
set_option maxRecDepth 100000 in
theorem mcheck_miss (out : Bool) (pv : Value) (code : Int) (hc : code ≠ 0) (i s b : Int) (w : World) (h1 : 0 ≤ i) (h2 : i < 65536) (hg : gapB i s b = false)
    (HF : ∀ W, Below w.heap.size w W → Calls Tryz.prog 64 #[pv, plV i s] W fun e w' => e = .returned (.tuple #[.agg (enC 0 0 ⟨#[]⟩ 0 0 none 0 0 none 0 0 none 0 0 0 0), .int .u32 code]) ∧ Below W.heap.size W w') :
    Calls Tryz.prog 45 #[mpV i s b, pv, .bool out] w fun e w' => e = .returned (.int .u32 code) ∧ Below w.heap.size w w' := by
  have HG : Hid (∀ W, Calls Tryz.prog 24 #[mpV i s b] W fun e w' => e = .returned (.bool false) ∧ Below W.heap.size W w') := fun W => by have := isGap_any i s b W h1 h2; rw [hg] at this; exact this
  have HFF : Hid (∀ W, Below w.heap.size w W → Calls Tryz.prog 64 #[pv, plV i s] W fun e w' => e = .returned (.tuple #[.agg (enC 0 0 ⟨#[]⟩ 0 0 none 0 0 none 0 0 none 0 0 0 0), .int .u32 code]) ∧ Below W.heap.size W w') := HF
  clear hg HF
  go_enter Tryz.func45, Tryz.ntmps45
  go_wp2_with fail
  refine (HG.out _).mono ?_
  rintro e w1 ⟨rfl, hb1⟩
  have B1 : Hid (Below w.heap.size w w1) := Below.andThen (by repeat (first | exact Below.refl _ _ | apply Below.drew | apply Below.al)) hb1
  have X1 : Hid (w1.heap[w.heap.size]? = some (.cells #[.int .u16 i, .int .u8 s, .int .i64 b] 73 (0, 0))) := blk11 hb1 (at11 _ _ _ rfl)
  have c0 : w1.cell? ⟨w.heap.size, 0, none⟩ = some (.int .u16 i) := by rw [cell_of_row _ _ 0 _ _ _ X1.out]; rfl
  have c1 : w1.cell? ⟨w.heap.size, 1, none⟩ = some (.int .u8 s) := by rw [cell_of_row _ _ 1 _ _ _ X1.out]; rfl
  clear hb1
  go_wp2_with fail
  refine (HFF.out _ B1.out).mono ?_
  rintro e w2 ⟨rfl, hb2⟩
  have B2 : Hid (Below w.heap.size w w2) := Below.andThen B1.out hb2
  clear hb2 c0 c1
  go_wp2_with fail
  go_ret
  exact ⟨rfl, Below.al B2.out _⟩
/-- A mapping's code: of the Maps one by one, then of how many bits there are. -/
def chkL (cf : Mq → Int) : List Mq → Nat → Int
  | [], _ => 0
  | x :: l, n => if cf x ≠ 0 then cf x else if 64 < n + x.b then 100925506 else chkL cf l (n + x.b)

set_option linter.unusedSimpArgs false in
set_option maxHeartbeats 4000000 in
set_option maxRecDepth 100000 in
theorem check_gen (out : Bool) (pv : Value) (cf : Mq → Int) (gm N cap : Nat) (ms : List Mq) (w : World) (hN : ms.length = N) (h64 : N ≤ 64) (hM : MsAt w gm ms) (hb1 : ∀ x ∈ ms, x.b ≤ 1000)
    (hC : ∀ W, Below w.heap.size w W → ∀ x ∈ ms, Calls Tryz.prog 45 #[mpV x.i x.s (x.b : Int), pv, .bool out] W fun e w' => e = .returned (.int .u32 (cf x)) ∧ Below W.heap.size W w') :
    Calls Tryz.prog 18 #[pv, .slice (some ⟨gm, 0, none⟩) N cap, .bool out] w fun e w' => e = .returned (.int .u32 (chkL cf ms 0)) ∧ Below w.heap.size w w' := by
  have HC : Hid (∀ W, Below w.heap.size w W → ∀ x ∈ ms, Calls Tryz.prog 45 #[mpV x.i x.s (x.b : Int), pv, .bool out] W fun e w' => e = .returned (.int .u32 (cf x)) ∧ Below W.heap.size W w') := hC
  have HM : Hid (MsAt w gm ms) := hM
  have HB1 : Hid (∀ x ∈ ms, x.b ≤ 1000) := hb1
  obtain ⟨res, hres⟩ : ∃ res, Hid (res = chkL cf ms 0) := ⟨_, rfl⟩
  rw [← hres.out]
  clear hC hM hb1
  go_enter Tryz.func18, Tryz.ntmps18
  go_wp2_with fail
  go_loopw [7, 16] (fun cv iv wr => ∃ k n : Nat, k ≤ N ∧ n ≤ 64 ∧ iv = .int .i64 (k : Int) ∧ cv = .int .i64 (n : Int) ∧ Hid (res = chkL cf (ms.drop k) n ∧ Below w.heap.size w wr)) (fun _ iv _ => N - (intOf iv).toNat)
  case atStart => exact ⟨0, 0, Nat.zero_le _, by decide, rfl, rfl, hres.out, Below.refl _ _⟩
  case round =>
    obtain ⟨k, n, hk, hn, rfl, rfl, HB⟩ := hrel
    by_cases hkN : k < N
    · have gk : (k : Int) < (N : Int) := by omega
      have gk0 : (0 : Int) ≤ (k : Int) := by omega
      obtain ⟨x, hx⟩ : ∃ x, ms[k]? = some x := ⟨_, List.getElem?_eq_getElem (by omega)⟩
      obtain ⟨c0, c1, c2⟩ := (HM.out.next HB.out.2) k x hx
      have HX : Hid (x ∈ ms) := List.mem_of_getElem? hx
      have hxb := HB1.out x HX.out
      have DR : Hid (res = if cf x ≠ 0 then cf x else if 64 < n + x.b then 100925506 else chkL cf (ms.drop (k + 1)) (n + x.b)) := by
        show _ = _
        obtain ⟨hk2, he⟩ := List.getElem?_eq_some_iff.1 hx
        have := HB.out.1
        rw [List.drop_eq_getElem_cons hk2, he] at this
        exact this
      have R6 : Hid (Below w.heap.size w wr) := HB.out.2
      obtain ⟨y, hy⟩ : ∃ y, Hid (y = cf x) := ⟨_, rfl⟩
      have wk : IntKind.i64.wrap ((k : Int) + 1) = ((k + 1 : Nat) : Int) := by rw [IntKind.wrap_i64]; omega
      have ws : IntKind.i64.wrap ((n : Int) + (x.b : Int)) = ((n + x.b : Nat) : Int) := by rw [IntKind.wrap_i64]; omega
      have HCx : Hid (∀ W, Below w.heap.size w W → Calls Tryz.prog 45 #[mpV x.i x.s (x.b : Int), pv, .bool out] W fun e w' => e = .returned (.int .u32 y) ∧ Below W.heap.size W w') := fun W hb => by rw [hy.out]; exact HC.out W hb x HX.out
      rw [← hy.out] at DR
      clear hx HB
      go_wp2_with fail
      refine (HCx.out _ (Below.al R6.out _)).mono ?_
      rintro e w2 ⟨rfl, hb⟩
      have B2 : Hid (Below w.heap.size w w2) := Below.andThen (Below.al R6.out _) hb
      have X2 : Hid (w2.heap[wr.heap.size]? = some (.cells #[.int .u16 x.i, .int .u8 x.s, .int .i64 (x.b : Int)] 73 (0, 0))) := blk11 hb (at11 _ _ _ rfl)
      have d2 : w2.cell? ⟨wr.heap.size, 2, none⟩ = some (.int .i64 (x.b : Int)) := by rw [cell_of_row _ _ 2 _ _ _ X2.out]; rfl
      clear hb c0 c1 c2
      by_cases hy0 : y = 0
      · subst hy0
        by_cases hs : 64 < n + x.b
        · have gs : (64 : Int) < ((n + x.b : Nat) : Int) := by omega
          have FR : Hid (res = 100925506) := by show _ = _; rw [DR.out]; simp [hs]
          clear DR
          go_wp2_with fail
          go_ret
          exact ⟨by rw [FR.out]; rfl, B2.out⟩
        · have gs : ¬ ((64 : Int) < ((n + x.b : Nat) : Int)) := by omega
          have FR : Hid (res = chkL cf (ms.drop (k + 1)) (n + x.b)) := by show _ = _; rw [DR.out]; simp [hs]
          clear DR
          go_wp2_with fail
          exact ⟨⟨k + 1, n + x.b, by omega, by omega, by go_num, by go_num, FR.out, B2.out⟩, by simp [intOf]; omega⟩
      · have FR : Hid (res = y) := by show _ = _; rw [DR.out]; simp [hy0]
        clear DR
        go_wp2_with fail
        go_ret
        exact ⟨by rw [FR.out]; rfl, B2.out⟩
    · obtain rfl : k = N := by omega
      have FR : Hid (res = 0) := by
        show _ = _
        rw [HB.out.1, List.drop_of_length_le (by omega)]
        rfl
      have R6 : Hid (Below w.heap.size w wr) := HB.out.2
      clear HB
      go_wp2_with fail
      go_ret
      exact ⟨by rw [FR.out]; rfl, R6.out⟩

set_option linter.unusedSimpArgs false in
set_option maxHeartbeats 4000000 in
set_option maxRecDepth 100000 in
theorem check_many (out : Bool) (pv : Value) (ad : Option Addr) (N cap : Nat) (w : World) (h : 64 < N) : Calls Tryz.prog 18 #[pv, .slice ad N cap, .bool out] w fun e w' => e = .returned (.int .u32 100925506) ∧ w' = w := by
  have gN : (64 : Int) < (N : Int) := by omega
  go_enter Tryz.func18, Tryz.ntmps18
  go_wp2_with fail
  go_ret
  exact ⟨rfl, rfl⟩
#print axioms check_gen
end Go.Proofs.YtajllkkbgpijiaaGreatDoor
namespace Go.Proofs.YtajllkkbgpijiaaGreatDoor
open Go.RowKit

set_option linter.unusedSimpArgs false in
set_option maxHeartbeats 4000000 in
set_option maxRecDepth 100000 in
theorem fits12_any (t b : Int) (w : World) : Calls Tryz.prog 51 #[.int .u8 t, .int .i64 b] w fun e w' => e = .returned (.bool (hasB t b)) ∧ w' = w := by
  obtain ⟨z, hz⟩ : ∃ z, Hid (z = Ty.Pl.sizeN t) := ⟨_, rfl⟩
  have HSZ : Hid (∀ W, Calls Tryz.prog 68 #[.int .u8 t] W fun e w' => e = .returned (.tuple #[.int .i64 z, .bool (decide (0 < z))]) ∧ w' = W) := fun W => by rw [hz.out]; exact Ty.refSize_any t W
  have HR : Hid (hasB t b = (decide (0 < z) && (b == 8 * z || (t == 1 && b == 1)))) := by show _ = _; unfold hasB; rw [hz.out]
  have hzb : 0 ≤ z ∧ z ≤ 8 := by rw [hz.out]; unfold Ty.Pl.sizeN; repeat' split
                                 all_goals omega
  go_enter Tryz.func51, Tryz.ntmps51
  go_wp2_with fail
  refine (HSZ.out _).mono ?_
  rintro e w1 ⟨rfl, rfl⟩
  clear HSZ
  by_cases h0 : 0 < z
  · have e8 : IntKind.i64.wrap (8 * z) = 8 * z := by rw [IntKind.wrap_i64]; omega
    by_cases h1 : b = 8 * z
    · subst h1
      go_wp2_with fail
      go_ret
      exact ⟨by rw [HR.out]; simp [h0], rfl⟩
    · by_cases h2 : t = 1
      · subst h2
        by_cases h3 : b = 1
        · subst h3
          go_wp2_with fail
          go_ret
          exact ⟨by rw [HR.out]; simp [h0], rfl⟩
        · go_wp2_with fail
          go_ret
          exact ⟨by rw [HR.out]; simp [h0, h1, h3], rfl⟩
      · go_wp2_with fail
        go_ret
        exact ⟨by rw [HR.out]; simp [h0, h1, h2], rfl⟩
  · go_wp2_with fail
    go_ret
    exact ⟨by rw [HR.out, show decide (0 < z) = false from by simpa using h0]; rfl, rfl⟩

set_option linter.unusedSimpArgs false in
set_option maxHeartbeats 4000000 in
set_option maxRecDepth 100000 in
theorem gap12_any (i s b : Int) (w : World) (h0 : 0 ≤ i) (h1 : i < 65536) : Calls Tryz.prog 29 #[mpV i s b] w fun e w' => e = .returned (.bool (gapB i s b)) ∧ Below w.heap.size w w' := by
  obtain ⟨gb, HG⟩ : ∃ gb, Hid (gb = gapB i s b) := ⟨_, rfl⟩
  rw [← HG.out]
  by_cases h2 : i ≤ 255
  · by_cases h3 : s = 0
    · subst h3
      have e1 : IntKind.u8.wrap i = i := by simp [IntKind.wrap, IntKind.bits, IntKind.signed]; omega
      obtain ⟨fb, HF⟩ : ∃ fb, Hid (fb = hasB i b) := ⟨_, rfl⟩
      have CF : Hid (∀ W, Calls Tryz.prog 51 #[.int .u8 i, .int .i64 b] W fun e w' => e = .returned (.bool fb) ∧ w' = W) := fun W => by rw [HF.out]; exact fits12_any i b W
      have GF : Hid (gb = fb) := by show _ = _; rw [HG.out, HF.out]; unfold gapB; rw [show i % 256 = i by omega]; simp
      go_enter Tryz.func29, Tryz.ntmps29
      go_wp2_with fail
      refine (CF.out _).mono ?_
      rintro e w1 ⟨rfl, rfl⟩
      go_wp2_with fail
      go_ret
      exact ⟨by rw [GF.out]; rfl, (by repeat (first | exact Below.refl _ _ | apply Below.drew | apply Below.al))⟩
    · have h3b : (s == 0) = false := by simpa using h3
      have GF : Hid (gb = false) := by show _ = _; rw [HG.out]; unfold gapB; simp [h3]
      go_enter Tryz.func29, Tryz.ntmps29
      go_wp2_with fail
      go_ret
      exact ⟨by rw [GF.out]; rfl, (by repeat (first | exact Below.refl _ _ | apply Below.drew | apply Below.al))⟩
  · have GF : Hid (gb = false) := by show _ = _; rw [HG.out]; unfold gapB; simp; omega
    go_enter Tryz.func29, Tryz.ntmps29
    go_wp2_with fail
    go_ret
    exact ⟨by rw [GF.out]; rfl, (by repeat (first | exact Below.refl _ _ | apply Below.drew | apply Below.al))⟩
#print axioms fits12_any
#print axioms gap12_any
end Go.Proofs.YtajllkkbgpijiaaGreatDoor
