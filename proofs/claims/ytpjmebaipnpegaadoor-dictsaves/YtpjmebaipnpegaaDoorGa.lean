/-
  Rounds of a range over a function; what they keep.
  The bits of a row: a function to range over.
  Bits laid into a row.
  lay.
  A Map that may be.
  A mapping that may be: Check, Size.
  Pack.
  A value's bits, taken out of a row.
  Unpack.
  Check, of any Maps.
  What is refused, and what is empty.
  Any Maps that came in, of any dictionary: check, Check.
  What New's dictionary holds; Size and Pack of any Maps that came in.
  What has been packed, bit by bit.
  Unpack of any Maps that came in.
  Unpack of any Maps that may be, of any dictionary; gaps.
  A dictionary in memory, place by place: May and Write of any place.
  Write of any place; what a dictionary is behind it.
  What New made, place by place; dictionaries that are the same but for their values.
-/
import Derived.RangeFuncNested
import Derived.RangeFuncBound
import Derived.RangeFuncCalls
import Derived.RangeFuncLeaves
import Derived.RangeFuncWrites
import Derived.RangeFuncOne
import Derived.Shelf.Abstract
import Derived.Shelf.RegionOpen
import Derived.OwnWalkIn
import Derived.TacticsInMore
import Derived.LoopNIn
import Derived.LoopIn
import Derived.Test.YtpjmebaipnpegaaDoorDa
import Derived.Test.YtpjmebaipnpegaaDoorDg
import Derived.WalkSmall
import Derived.Test.YtpjmebaipnpegaaDoorIa
import Derived.Test.YtpjmebaipnpegaaDoorIg
import Derived.Laws.BitsAllLaws
namespace Go.Proofs.YtpjmebaipnpegaaDoor
open Go.RowKit Go.Shelf
attribute [local go_sem] Oper.semAt_some

theorem op_round {P : Program} {l n : Nat} {o : Oper} {a : Act} {w : World} {K : Act → World → Prop} {Q : Exit → Act → World → Prop} (hd : ∀ c, o.op ≠ .defer c) (h : o.wp P a w K Q) : o.wpIn (Fence.wide.inRound l) n P a w K Q := by
  refine ⟨fun _ _ => trivial, ?_⟩
  show o.uponIn _ n P a K Q ((o.semAt (some l) a.eval).run P w)
  rw [Oper.semAt_some l _ o hd]
  unfold Oper.wp at h
  generalize (execOp a.eval o).run P w = r at *
  cases r with
  | ok v w' =>
    cases v with
    | enter f args => exact ⟨(fun e => by cases e), CallsIn.inRound l (callsIn_wide.2 h)⟩
    | row r args => exact ⟨(fun e => by cases e), fun c cs _ => let ⟨v, w2, r2, s⟩ := h c cs; ⟨v, w2, r2, stepsIn_wide.2 s⟩⟩
    | round _ _ _ _ _ => exact h.elim
    | _ => exact h
  | halt x w' => cases x <;> exact h
theorem wpOp_round {P : Program} {l n : Nat} {ops : Array Oper} {Q : Exit → Act → World → Prop} (hL : ∀ a w, ¬ Q .outgrown a w) (hd : ∀ (i : Nat) (o : Oper), ops[i]? = some o → ∀ c, o.op ≠ .defer c) {i : Nat} {K : Act → World → Prop} {a : Act} {w : World} (h : wpOp P ops Q i K a w) : wpOpIn (Fence.wide.inRound l) n P ops Q i K a w := by
  unfold wpOpIn
  unfold wpOp at h
  cases hi : ops[i]? with
  | none => simpa [hi] using h
  | some o =>
    simp only [hi] at h ⊢
    by_cases hw : Region.wanted o (yielded ops a.tmps) = true
    · rw [if_pos hw] at h ⊢
      rcases h with h | ⟨_, a', w', h⟩
      · exact op_round (hd i o hi) h
      · exact absurd h (hL a' w')
    · rw [if_neg hw] at h ⊢
      exact ⟨fun _ _ => trivial, h⟩
theorem any_round {P : Program} {l n : Nat} {md : Region.Mode} {ops : Array Oper} {Q : Exit → Act → World → Prop} (hL : ∀ a w, ¬ Q .outgrown a w) (hd : ∀ (i : Nat) (o : Oper), ops[i]? = some o → ∀ c, o.op ≠ .defer c) : ∀ (fuel : Nat) (listed : Array Bool) (a : Act) (w : World), wpAny P md ops Q fuel listed a w → wpAnyIn (Fence.wide.inRound l) n P md ops Q fuel listed a w := by
  intro fuel
  induction fuel with
  | zero => intro listed a w h; exact h
  | succ fuel ih =>
    intro listed a w h
    exact ⟨h.1, fun i hi => wpOpIn_mono (fun a w hh => ih _ a w hh) (wpOp_round hL hd (h.2 i hi))⟩
/-- Does no operation of a region defer? -/
def noDefer (ops : Array Oper) : Bool := ops.all fun o => match o.op with | .defer _ => false | _ => true
theorem noDefer_of {ops : Array Oper} (h : noDefer ops = true) (i : Nat) (o : Oper) (hi : ops[i]? = some o) (c : Call) : o.op ≠ .defer c := by
  intro e
  unfold noDefer at h
  rw [Array.all_eq_true] at h
  obtain ⟨hl, rfl⟩ := Array.getElem?_eq_some_iff.1 hi
  have := h i hl
  rw [e] at this
  cases this
/-- A region that draws, within a round, taken as anywhere. -/
theorem region_round {l n id : Nat} {ops : Array Oper} {Q : Exit → Act → World → Prop} {S : World → Prop} {a : Act} {w : World} (hL : ∀ a w, ¬ Q .outgrown a w) (hd : noDefer ops = true) (hm : Tryd.prog.follows .mixedOrders = true) (hS : S w.drew)
    (h : S w.drew → wpAnyH Tryd.prog .any ops Q S ops.size (Array.replicate ops.size false) a w.drew) : (Code.region id ops true).wpIn (Fence.wide.inRound l) n Tryd.prog Q a w :=
  wpIn_region_any hm (any_round hL (noDefer_of hd) _ _ _ _ (wpAny_of_held _ _ _ _ (h hS)))
/-- Of what stands in cells only blocks of a list may turn; ahead of a place nothing else. -/
structure Kq (S : List Nat) (N : Nat) (w w' : World) : Prop where
  os : w'.os = w.os
  tape : w'.tape = w.tape
  output : w'.output = w.output
  size : w.heap.size ≤ w'.heap.size
  block : ∀ k o, w.heap[k]? = some o → k ∉ S → (k < N ∨ o.isCells = true) → w'.heap[k]? = some o
theorem Kq.trans {S : List Nat} {N : Nat} {a b c : World} (h : Kq S N a b) (k : Kq S N b c) : Kq S N a c :=
  ⟨k.os.trans h.os, k.tape.trans h.tape, k.output.trans h.output, Nat.le_trans h.size k.size, fun i o hi hs hc => k.block i o (h.block i o hi hs hc) hs hc⟩
theorem Kq.of {S : List Nat} (N : Nat) {a b : World} (h : Kp S a b) : Kq S N a b := ⟨h.os, h.tape, h.output, h.size, fun i o hi hs _ => by rw [h.block i (lt_of_heap hi) hs]; exact hi⟩
theorem Kq.put {S : List Nat} {N : Nat} (W : World) (l : Nat) (o o' : Obj) (hl : N ≤ l) (ho : W.heap[l]? = some o) (hc : o.isCells = false) : Kq S N W (W.putObj l o') := by
  refine ⟨rfl, rfl, rfl, by simp [World.putObj], fun k q hk _ hq => ?_⟩
  have hkl : k ≠ l := fun e => by
    subst e
    rw [ho] at hk
    obtain rfl := Option.some.inj hk
    rcases hq with hq | hq
    · omega
    · rw [hc] at hq; cases hq
  rw [← hk]
  simp [World.putObj, Ne.symm hkl]

theorem grown_of {w w' : World} (hb : Below w.heap.size w w') : w.grownBy w' none := ⟨hb.os, hb.tape, hb.output, hb.size, fun k hk _ => hb.block k hk⟩
theorem kq_of_grown {N : Nat} {A B : World} {row : Option Nat} (hg : A.grownBy B row) (hr : ∀ r, row = some r → N ≤ r ∧ ∃ o : Obj, A.heap[r]? = some o ∧ o.isCells = false) : Kq [] N A B :=
  ⟨hg.os, hg.tape, hg.output, hg.size, fun k o hk _ hc => by
    rw [hg.block k (lt_of_heap hk) (fun e => by
      obtain ⟨h1, o', h2, h3⟩ := hr k e.symm
      rw [hk] at h2
      obtain rfl := Option.some.inj h2
      rcases hc with hc | hc
      · omega
      · rw [h3] at hc; cases hc)]
    exact hk⟩
theorem Kq.more {S S' : List Nat} {N : Nat} {a b : World} (h : Kq S N a b) (hs : ∀ k ∈ S, k ∈ S') : Kq S' N a b := ⟨h.os, h.tape, h.output, h.size, fun i o hi hn hc => h.block i o hi (fun hm => hn (hs i hm)) hc⟩
theorem Kq.cells {S : List Nat} {N : Nat} {a b : World} (h : Kq S N a b) {k : Nat} {C : Array Value} {t : TypeId} {f : Nat × Nat} (hk : a.heap[k]? = some (.cells C t f)) (hs : k ∉ S) : b.heap[k]? = some (.cells C t f) := h.block k _ hk hs (.inr rfl)
theorem block_of_cell {w : World} {b o : Nat} {v : Value} (h : w.cell? ⟨b, o, none⟩ = some v) : ∃ C t f, w.heap[b]? = some (.cells C t f) := by
  unfold World.cell? at h
  split at h
  · rename_i C t f hc; exact ⟨C, t, f, hc⟩
  · cases h
theorem Row.kq {w w' : World} {a : Option Addr} {n N : Nat} {zs : List Int} {S : List Nat} (h : Row w a n zs) (k : Kq S N w w') (hn : 0 < n → ∀ b off, a = some ⟨b, off, none⟩ → b ∉ S) : Row w' a n zs where
  size := h.size
  oct := h.oct
  at_ := fun hp => by
    obtain ⟨b, off, e, hc⟩ := h.at_ hp
    refine ⟨b, off, e, fun i hi => ?_⟩
    obtain ⟨C, t, f, hb⟩ := block_of_cell (hc i hi)
    rw [World.cell?_of_block (w := w) ((k.cells hb (hn hp b off e)).trans hb.symm)]
    exact hc i hi
theorem keeps_of_kp {S : List Nat} {N : Nat} {W W' : World} (h : Kp S W W') (hS : ∀ s ∈ S, s < N) : KeepsFrom N W W' := ⟨h.size, fun k o hN hk _ => by rw [h.block k (lt_of_heap hk) (fun hm => by have := hS k hm; omega)]; exact hk⟩
def firstRange : Code → Option Code
  | .rangeFunc g ps a c => some (.rangeFunc g ps a c)
  | .seq a b => match firstRange a with
    | some c => some c
    | none => firstRange b
  | .block _ c => firstRange c
  | .scope c => firstRange c
  | .loop c => firstRange c
  | .cond _ a b => match firstRange a with
    | some c => some c
    | none => firstRange b
  | _ => none
#print axioms region_round
end Go.Proofs.YtpjmebaipnpegaaDoor
namespace Go.Proofs.YtpjmebaipnpegaaDoor
open Go.RowKit Go.Shelf
attribute [local go_sem] Oper.semAt_some



/-- What the iteration reads. -/
structure BM (Bn Bf Br off cnt : Nat) (a : Option Addr) (len cap : Nat) (zs : List Int) (W : World) : Prop where
  n : W.heap[Bn]? = some (.cells #[.int .i64 (cnt : Int)] 3 (0, 0))
  f : W.heap[Bf]? = some (.cells #[.int .i64 (off : Int)] 3 (0, 0))
  r : W.heap[Br]? = some (.cells #[.slice a len cap] 34 (0, 0))
  row : Row W a len zs
theorem BM.next {Bn Bf Br off cnt : Nat} {a : Option Addr} {len cap : Nat} {zs : List Int} {W W' : World} (h : BM Bn Bf Br off cnt a len cap zs W) (hb : Below W.heap.size W W') : BM Bn Bf Br off cnt a len cap zs W' :=
  ⟨blk11 hb h.n, blk11 hb h.f, blk11 hb h.r, h.row.next hb⟩
theorem BM.kq {Bn Bf Br off cnt N : Nat} {a : Option Addr} {len cap : Nat} {zs : List Int} {S : List Nat} {W W' : World} (h : BM Bn Bf Br off cnt a len cap zs W) (k : Kq S N W W') (n1 : Bn ∉ S) (n2 : Bf ∉ S) (n3 : Br ∉ S) (n4 : 0 < len → ∀ b o, a = some ⟨b, o, none⟩ → b ∉ S) : BM Bn Bf Br off cnt a len cap zs W' :=
  ⟨k.cells h.n n1, k.cells h.f n2, k.cells h.r n3, h.row.kq k n4⟩
/-- A bit. -/
def bitA (zs : List Int) (k : Nat) : Int := bits .and .u8 (zs.getD (k / 8) 0 / 2 ^ (k % 8)) 1
/-- One that is told: its number. -/
structure BX (cnt : Nat) where
  i : Nat
  h : i < cnt
/-- The bits that are told. -/
def bq (cnt : Nat) : List (BX cnt) := List.ofFn fun i : Fin cnt => ⟨i.1, i.2⟩
theorem bq_len (cnt : Nat) : (bq cnt).length = cnt := by simp [bq]
theorem bq_at (cnt i : Nat) (hi : i < cnt) : (bq cnt).take i ++ [⟨i, hi⟩] = (bq cnt).take (i + 1) := by
  rw [List.take_add_one, List.getElem?_eq_getElem (by rw [bq_len]; exact hi)]
  simp [bq]

end Go.Proofs.YtpjmebaipnpegaaDoor
namespace Go.Proofs.YtpjmebaipnpegaaDoor
open Go.RowKit Go.Shelf
attribute [local go_sem] Oper.semAt_some

/-- One bit more in a row. -/
def orB (ys : List Int) (k : Nat) (b : Int) : List Int := ys.set (k / 8) (bits .or .u8 (ys.getD (k / 8) 0) (IntKind.u8.wrap (b * 2 ^ (k % 8))))
theorem orB_len (ys : List Int) (k : Nat) (b : Int) : (orB ys k b).length = ys.length := by simp [orB]
/-- Bits laid into a row, one behind the other. -/
def layL (zs : List Int) (off fr : Nat) {cnt : Nat} (ys : List Int) (pre : List (BX cnt)) : List Int := pre.foldl (fun ys x => orB ys (fr + x.i) (bitA zs (off + x.i))) ys
theorem layL_len (zs : List Int) (off fr : Nat) {cnt : Nat} (ys : List Int) (pre : List (BX cnt)) : (layL zs off fr ys pre).length = ys.length := by
  unfold layL
  induction pre generalizing ys with
  | nil => rfl
  | cons x l ih => rw [List.foldl_cons, ih, orB_len]
theorem layL_app (zs : List Int) (off fr : Nat) {cnt : Nat} (ys : List Int) (pre : List (BX cnt)) (x : BX cnt) : layL zs off fr ys (pre ++ [x]) = orB (layL zs off fr ys pre) (fr + x.i) (bitA zs (off + x.i)) := by
  unfold layL
  rw [List.foldl_append]
  rfl
/-- What the loop has made of the row. -/
structure LP (W0 : World) (g : Nat) (zs : List Int) (off fr : Nat) {cnt : Nat} (ys0 : List Int) (pre : List (BX cnt)) (W : World) : Prop where
  row : W.heap[g]? = some (.cells ((layL zs off fr ys0 pre).map (Value.int .u8)).toArray 5 (0, 0))
  keep : Kq [g] W0.heap.size W0 W


end Go.Proofs.YtpjmebaipnpegaaDoor
namespace Go.Proofs.YtpjmebaipnpegaaDoor
open Go.RowKit Go.Shelf
attribute [local go_sem] Oper.semAt_some

/-- Bits of a row laid into another one. -/
def layB (zs : List Int) (off cnt fr : Nat) (ys : List Int) : List Int := layL zs off fr ys (bq cnt)

end Go.Proofs.YtpjmebaipnpegaaDoor
namespace Go.Proofs.YtpjmebaipnpegaaDoor
open Go.RowKit

/-- Has a Map of a type so many bits? -/
def hasB (t b : Int) : Bool := decide (0 < Ty.Pl.sizeN t) && (b == 8 * Ty.Pl.sizeN t || (t == 1 && b == 1))

/-- A Map as a value. -/
abbrev mpV (i s b : Int) : Value := .agg #[.int .u16 i, .int .u8 s, .int .i64 b]



/-- The right that is asked. -/
def rgt (out : Bool) : Int := if out then 1 else 2

end Go.Proofs.YtpjmebaipnpegaaDoor
namespace Go.Proofs.YtpjmebaipnpegaaDoor
open Go.RowKit

/-- A Map. -/
structure Mq where
  i : Int
  s : Int
  b : Nat
/-- Maps in memory. -/
def MsAt (W : World) (g : Nat) (ms : List Mq) : Prop := ∀ (k : Nat) (x : Mq), ms[k]? = some x → W.cell? ⟨g, k * 3, none⟩ = some (.int .u16 x.i) ∧ W.cell? ⟨g, k * 3 + 1, none⟩ = some (.int .u8 x.s) ∧ W.cell? ⟨g, k * 3 + 2, none⟩ = some (.int .i64 (x.b : Int))
theorem MsAt.next {W W' : World} {g : Nat} {ms : List Mq} (h : MsAt W g ms) (hb : Below W.heap.size W W') : MsAt W' g ms := fun k x hx => by
  obtain ⟨h1, h2, h3⟩ := h k x hx
  exact ⟨by rw [hb.cell (p := ⟨g, k * 3, none⟩) (block_lt_of_cell h1)]; exact h1, by rw [hb.cell (p := ⟨g, k * 3 + 1, none⟩) (block_lt_of_cell h2)]; exact h2, by rw [hb.cell (p := ⟨g, k * 3 + 2, none⟩) (block_lt_of_cell h3)]; exact h3⟩
theorem MsAt.kp {W W' : World} {g : Nat} {ms : List Mq} {S : List Nat} (h : MsAt W g ms) (hb : Kp S W W') (hg : g ∉ S) : MsAt W' g ms := fun k x hx => by
  obtain ⟨h1, h2, h3⟩ := h k x hx
  have e := hb.block g (block_lt_of_cell h1) hg
  exact ⟨by rw [World.cell?_of_block (w := W) e]; exact h1, by rw [World.cell?_of_block (w := W) e]; exact h2, by rw [World.cell?_of_block (w := W) e]; exact h3⟩
/-- May a Map be one of a mapping, of this dictionary? -/
def MpOk (W : World) (lst : Mp) (out : Bool) (x : Mq) : Prop := ∃ nm t rt d ld cd l ll cl h lh ch tg gr v lv cv zd zl zh, lookP lst x.i x.s = some (.agg (itC x.i x.s nm t rt d ld cd l ll cl h lh ch tg gr v lv cv)) ∧ SlOk W d ld cd zd ∧ SlOk W l ll cl zl ∧ SlOk W h lh ch zh ∧ ld ≤ 16777216 ∧ ll ≤ 16777216 ∧ lh ≤ 16777216 ∧ 256 ≤ x.i ∧ x.i < 65536 ∧ (bits .and .u8 rt 4 != 0) = true ∧ hasB t (x.b : Int) = true ∧ (bits .and .u8 rt (rgt out) == 0) = false
theorem MpOk.next {W W' : World} {lst : Mp} {out : Bool} {x : Mq} (h : MpOk W lst out x) (hb : Below W.heap.size W W') : MpOk W' lst out x := by
  obtain ⟨nm, t, rt, d, ld, cd, l, ll, cl, h, lh, ch, tg, gr, v, lv, cv, zd, zl, zh, h1, r1, r2, r3, r⟩ := h
  exact ⟨nm, t, rt, d, ld, cd, l, ll, cl, h, lh, ch, tg, gr, v, lv, cv, zd, zl, zh, h1, r1.next hb, r2.next hb, r3.next hb, r⟩
/-- How many bits the first ones have. -/
def sumB (ms : List Mq) (k : Nat) : Nat := ((ms.take k).map (·.b)).sum
theorem sumB_succ {ms : List Mq} {k : Nat} {x : Mq} (h : ms[k]? = some x) : sumB ms (k + 1) = sumB ms k + x.b := by
  obtain ⟨hk, he⟩ := List.getElem?_eq_some_iff.1 h
  unfold sumB
  rw [List.take_succ_eq_append_getElem hk, List.map_append, List.sum_append, he]
  simp
theorem sumB_le (ms : List Mq) {k j : Nat} (h : k ≤ j) : sumB ms k ≤ sumB ms j := by
  unfold sumB
  have : ms.take k = (ms.take j).take k := by rw [List.take_take, Nat.min_eq_left h]
  rw [this]
  generalize ms.take j = l
  clear this h
  induction l generalizing k with
  | nil => simp
  | cons x l ih =>
    cases k with
    | zero => simp
    | succ k => simp only [List.take_succ_cons, List.map_cons, List.sum_cons]; have := ih (k := k); omega



end Go.Proofs.YtpjmebaipnpegaaDoor
namespace Go.Proofs.YtpjmebaipnpegaaDoor
open Go.RowKit

/-- Rows of noughts. -/
def zC (R : Nat) : Array Value := ((List.replicate R (0 : Int)).map (Value.int .u8)).toArray
theorem infoU : (Tryd.prog.info? 5).map (fun i => (i.zero, i.size, i.bytes)) = some (some (.int .u8 0), 1, 1) := by kernel_rfl
theorem made_zC (R : Nat) : madeCells (Value.int .u8 0).cells R = zC R := by
  apply Array.ext
  · simp [madeCells, zC]
  · intro i h1 h2
    simp [madeCells, zC, Value.cells, Nat.mod_one]
theorem mkZ (R : Nat) (h : R ≤ 16777216) (W : World) : (Instr.makeSlice 34 (.int .i64 (R : Int)) (.int .i64 (R : Int))).run Tryd.prog W = .ok (.slice (some ⟨W.heap.size, 0, none⟩) R R) (W.alloc (.cells (zC R) 5)) := by
  obtain ⟨i, hi, hz0, hz1, hz2⟩ := info_parts infoU
  have := run_makeSlice (P := Tryd.prog) W 34 5 i (.int .u8 0) Tryd.underlying34 hi hz0 .i64 .i64 R R (by omega) (by omega) (by rw [hz1]; omega) (by rw [hz2]; omega) (by omega)
  rw [this, Int.toNat_natCast, hz1, Nat.mul_one, made_zC]
/-- The value of a Map, in memory. -/
def VaOk (W : World) (lst : Mp) (val : Int → Int → List Int) (x : Mq) : Prop := ∃ nm t rt d ld cd l ll cl h lh ch tg gr v lv cv, lookP lst x.i x.s = some (.agg (itC x.i x.s nm t rt d ld cd l ll cl h lh ch tg gr v lv cv)) ∧ SlOk W v lv cv (val x.i x.s) ∧ lv ≤ 1000 ∧ x.b ≤ 8 * lv ∧ (bits .and .u8 rt 1 != 0) = true
theorem VaOk.next {W W' : World} {lst : Mp} {val : Int → Int → List Int} {x : Mq} (h : VaOk W lst val x) (hb : Below W.heap.size W W') : VaOk W' lst val x := by
  obtain ⟨nm, t, rt, d, ld, cd, l, ll, cl, h, lh, ch, tg, gr, v, lv, cv, h1, r1, r⟩ := h
  exact ⟨nm, t, rt, d, ld, cd, l, ll, cl, h, lh, ch, tg, gr, v, lv, cv, h1, r1.next hb, r⟩
theorem read_mp {W : World} {lst : Mp} {val : Int → Int → List Int} {x : Mq} {p m : Nat} {cg : Int} (h : VaOk W lst val x) (hp : W.heap[p]? = some (.cells #[.map (some m), .int .i64 cg] 50 (0, 0))) (hm : IsM W m lst) :
    Calls Tryd.prog 19 #[.pointer (some ⟨p, 0, none⟩), plV x.i x.s] W fun e w' => ∃ a' lv cap', e = .returned (.tuple #[.slice a' lv cap', .int .u32 0]) ∧ Told W w' a' lv cap' (val x.i x.s) ∧ lv ≤ 1000 ∧ x.b ≤ 8 * lv ∧ Below W.heap.size W w' := by
  obtain ⟨nm, t, rt, d, ld, cd, l, ll, cl, h, lh, ch, tg, gr, v, lv, cv, h1, r1, g1, g2, hr⟩ := h
  refine (read_at p m cg lst x.i x.s nm t rt d ld cd l ll cl h lh ch tg gr v lv cv (val x.i x.s) W hp hm h1 r1 (by omega) hr).mono ?_
  rintro e w' ⟨⟨a', cap', rfl, ht⟩, hb⟩
  exact ⟨a', lv, cap', rfl, ht, g1, g2, hb⟩
/-- What has been packed of the first ones. -/
def pk (ms : List Mq) (val : Int → Int → List Int) (R : Nat) : Nat → List Int
  | 0 => List.replicate R 0
  | k + 1 => match ms[k]? with
    | some x => layB (val x.i x.s) 0 x.b (sumB ms k) (pk ms val R k)
    | none => pk ms val R k
theorem pk_succ {ms : List Mq} {val : Int → Int → List Int} {R k : Nat} {x : Mq} (h : ms[k]? = some x) : pk ms val R (k + 1) = layB (val x.i x.s) 0 x.b (sumB ms k) (pk ms val R k) := by
  simp only [pk, h]
theorem pk_len (ms : List Mq) (val : Int → Int → List Int) (R k : Nat) : (pk ms val R k).length = R := by
  induction k with
  | zero => simp [pk]
  | succ k ih =>
    cases h : ms[k]? with
    | none =>
      have e : pk ms val R (k + 1) = pk ms val R k := by
        simp only [pk, h]
      rw [e]
      exact ih
    | some x => rw [pk_succ h]; unfold layB; rw [layL_len]; exact ih

end Go.Proofs.YtpjmebaipnpegaaDoor
namespace Go.Proofs.YtpjmebaipnpegaaDoor
open Go.RowKit

/-- The bytes of bits of a row. -/
def tkB (zs : List Int) (nx n : Nat) : List Int := layB zs nx n 0 (List.replicate ((n + 7) / 8) 0)
theorem tkB_len (zs : List Int) (nx n : Nat) : (tkB zs nx n).length = (n + 7) / 8 := by unfold tkB layB; rw [layL_len]; simp

end Go.Proofs.YtpjmebaipnpegaaDoor
namespace Go.Proofs.YtpjmebaipnpegaaDoor
open Go.RowKit

/-- A value for a place, in a block of its own. -/
structure Vq where
  i : Int
  s : Int
  g : Nat
  r : Nat
/-- Its cells. -/
abbrev Vq.A (x : Vq) : Array Value := #[.int .u16 x.i, .int .u8 x.s, .slice (some ⟨x.g, 0, none⟩) x.r x.r]
def Vq.L (x : Vq) : List Value := x.A.toList
/-- The cells of a row of them. -/
def flv (l : List Vq) : List Value := l.flatMap Vq.L
theorem Vq.L_len (x : Vq) : x.L.length = 3 := rfl
theorem flv_len (l : List Vq) : (flv l).length = l.length * 3 := by
  unfold flv
  induction l with
  | nil => rfl
  | cons x l ih => rw [List.flatMap_cons, List.length_append, ih, Vq.L_len, List.length_cons]; omega
theorem flv_app (l m : List Vq) : flv (l ++ m) = flv l ++ flv m := by unfold flv; rw [List.flatMap_append]
theorem flv_one (x : Vq) : flv [x] = x.L := by unfold flv; simp
theorem flv_at (l : List Vq) (i : Nat) (x : Vq) (h : l[i]? = some x) : ((flv l).drop (i * 3)).take 3 = x.L := by
  obtain ⟨hi, he⟩ := List.getElem?_eq_some_iff.1 h
  have e : l = l.take i ++ (x :: l.drop (i + 1)) := by rw [← he, List.getElem_cons_drop, List.take_append_drop]
  have e2 : flv l = flv (l.take i) ++ (x.L ++ flv (l.drop (i + 1))) := by
    conv => lhs; rw [e]
    rw [flv_app]
    rfl
  have hl : (flv (l.take i)).length = i * 3 := by rw [flv_len, List.length_take]; congr 1; omega
  rw [e2, List.drop_append_of_le_length (by omega), List.drop_of_length_le (by omega), List.nil_append, List.take_append_of_le_length (by rw [Vq.L_len]; omega), List.take_of_length_le (by rw [Vq.L_len]; omega)]




end Go.Proofs.YtpjmebaipnpegaaDoor
namespace Go.Proofs.YtpjmebaipnpegaaDoor
open Go.RowKit

/-- Is a Map a gap? -/
def gapB (i s b : Int) : Bool := (i == i % 256 && s == 0) && hasB (i % 256) b







/-- A mapping's code: of the Maps one by one, then of how many bits there are. -/
def chkL (cf : Mq → Int) : List Mq → Nat → Int
  | [], _ => 0
  | x :: l, n => if cf x ≠ 0 then cf x else if 64 < n + x.b then 100925506 else chkL cf l (n + x.b)



end Go.Proofs.YtpjmebaipnpegaaDoor
namespace Go.Proofs.YtpjmebaipnpegaaDoor
open Go.RowKit















end Go.Proofs.YtpjmebaipnpegaaDoor
namespace Go.Proofs.YtpjmebaipnpegaaDoor
open Go.RowKit

/-- A Map that came in. -/
structure Mz where
  i : Int
  s : Int
  b : Int
/-- Maps that came in, in memory. -/
def MzAt (W : World) (g off : Nat) (ms : List Mz) : Prop := ∀ (k : Nat) (x : Mz), ms[k]? = some x → W.cell? ⟨g, off + k * 3, none⟩ = some (.int .u16 x.i) ∧ W.cell? ⟨g, off + k * 3 + 1, none⟩ = some (.int .u8 x.s) ∧ W.cell? ⟨g, off + k * 3 + 2, none⟩ = some (.int .i64 x.b)
theorem MzAt.next {W W' : World} {g off : Nat} {ms : List Mz} (h : MzAt W g off ms) (hb : Below W.heap.size W W') : MzAt W' g off ms := fun k x hx => by
  obtain ⟨h1, h2, h3⟩ := h k x hx
  exact ⟨by rw [hb.cell (p := ⟨g, off + k * 3, none⟩) (block_lt_of_cell h1)]; exact h1, by rw [hb.cell (p := ⟨g, off + k * 3 + 1, none⟩) (block_lt_of_cell h2)]; exact h2, by rw [hb.cell (p := ⟨g, off + k * 3 + 2, none⟩) (block_lt_of_cell h3)]; exact h3⟩
theorem MzAt.kp {W W' : World} {g off : Nat} {ms : List Mz} {S : List Nat} (h : MzAt W g off ms) (hb : Kp S W W') (hg : g ∉ S) : MzAt W' g off ms := fun k x hx => by
  obtain ⟨h1, h2, h3⟩ := h k x hx
  have e := hb.block g (block_lt_of_cell h1) hg
  exact ⟨by rw [World.cell?_of_block (w := W) e]; exact h1, by rw [World.cell?_of_block (w := W) e]; exact h2, by rw [World.cell?_of_block (w := W) e]; exact h3⟩
/-- An item's type, and its rights. -/
def itT : Value → Int
  | .agg c => match c[3]? with
    | some (Value.int _ t) => t
    | _ => 0
  | _ => 0
def itR : Value → Int
  | .agg c => match c[4]? with
    | some (Value.int _ t) => t
    | _ => 0
  | _ => 0
/-- Every item of a dictionary is whole. -/
def ItOk (W : World) (lst : Mp) (val : Int → Int → List Int) : Prop := ∀ (i s : Int) (u : Value), lookP lst i s = some u → ∃ nm t rt d ld cd l ll cl h lh ch tg gr v lv cv zd zl zh, u = .agg (itC i s nm t rt d ld cd l ll cl h lh ch tg gr v lv cv) ∧ SlOk W d ld cd zd ∧ SlOk W l ll cl zl ∧ SlOk W h lh ch zh ∧ SlOk W v lv cv (val i s) ∧ ld ≤ 16777216 ∧ ll ≤ 16777216 ∧ lh ≤ 16777216 ∧ lv ≤ 16777216 ∧ (0 < Ty.Pl.sizeN t → (lv : Int) = Ty.Pl.sizeN t)
theorem ItOk.next {W W' : World} {lst : Mp} {val : Int → Int → List Int} (h : ItOk W lst val) (hb : Below W.heap.size W W') : ItOk W' lst val := fun i s u hu => by
  obtain ⟨nm, t, rt, d, ld, cd, l, ll, cl, h, lh, ch, tg, gr, v, lv, cv, zd, zl, zh, e, r1, r2, r3, r4, r5⟩ := h i s u hu
  exact ⟨nm, t, rt, d, ld, cd, l, ll, cl, h, lh, ch, tg, gr, v, lv, cv, zd, zl, zh, e, r1.next hb, r2.next hb, r3.next hb, r4.next hb, r5⟩
/-- A Map's code, of a dictionary. -/
def cfD (lst : Mp) (out : Bool) (x : Mz) : Int := if gapB x.i x.s x.b = true then (if out then 100925505 else 0) else match lookP lst x.i x.s with
  | none => missC lst x.i
  | some u => if (((bits .and .u8 (itR u) 4 != 0) && hasB (itT u) x.b) && !(bits .and .u8 (itR u) (rgt out) == 0)) = true then 0 else 100925505


theorem hasB_bd {t b : Int} (h : hasB t b = true) : 0 ≤ b ∧ b ≤ 64 := by
  have := Ty.Pl.size_bd t
  simp only [hasB, Bool.and_eq_true, Bool.or_eq_true, decide_eq_true_eq, beq_iff_eq] at h
  omega
theorem cfD_bd {lst : Mp} {out : Bool} {x : Mz} (h : cfD lst out x = 0) : 0 ≤ x.b ∧ x.b ≤ 64 := by
  unfold cfD at h
  split at h
  · rename_i hg
    simp only [gapB, Bool.and_eq_true] at hg
    exact hasB_bd hg.2
  · split at h
    · exact absurd h (miss_ne _ _)
    · split at h
      · rename_i hq
        simp only [Bool.and_eq_true] at hq
        exact hasB_bd hq.1.2
      · exact absurd h (by decide)
/-- A mapping's code: of the Maps one by one, then of how many bits there are. -/
def chkZ (cf : Mz → Int) : List Mz → Int → Int
  | [], _ => 0
  | x :: l, n => if cf x ≠ 0 then cf x else if 64 < n + x.b then 100925506 else chkZ cf l (n + x.b)



def chkC (lst : Mp) (out : Bool) (ms : List Mz) : Int := if 64 < ms.length then 100925506 else chkZ (cfD lst out) ms 0
/-- Of a mapping that may be: each Map may be, and the bits are few. -/
theorem chkZ_zero (cf : Mz → Int) : ∀ (ms : List Mz) (n : Int), chkZ cf ms n = 0 → n ≤ 64 → (∀ x ∈ ms, cf x = 0) ∧ n + (ms.map (·.b)).sum ≤ 64
  | [], n, _, hn => ⟨fun x hx => (by cases hx), by simpa using hn⟩
  | x :: l, n, h, hn => by
    simp only [chkZ] at h
    split at h
    · rename_i h1; exact absurd h h1
    · rename_i h1
      split at h
      · exact absurd h (by decide)
      · rename_i h2
        have := chkZ_zero cf l (n + x.b) h (by omega)
        refine ⟨fun y hy => ?_, by have := this.2; simp only [List.map_cons, List.sum_cons]; omega⟩
        rcases List.mem_cons.1 hy with rfl | hy
        · simpa using h1
        · exact this.1 y hy
end Go.Proofs.YtpjmebaipnpegaaDoor
namespace Go.Proofs.YtpjmebaipnpegaaDoor
open Go.RowKit

theorem chkN_size {t : Int} {z lo hi : List Int} (h : Ty.chkN t z lo hi = 0) (hs : 0 < Ty.Pl.sizeN t) : (z.length : Int) = Ty.Pl.sizeN t := by
  have hc : Ty.Pl.cbN t z = 0 := by
    unfold Ty.chkN at h
    split at h
    · rename_i hn; exact absurd h hn
    · rename_i hn; simpa using hn
  unfold Ty.Pl.cbN at hc
  rw [if_neg (by omega : ¬ Ty.Pl.sizeN t = 0)] at hc
  repeat' (split at hc)
  all_goals first | (exfalso; revert hc; decide) | omega
/-- The values of a dictionary that was made of entries. -/
def valE : List Em → Int → Int → List Int
  | [], _, _ => []
  | e :: r, i, s => if (i == e.i && s == e.s) = true then firstL e.t e.zd else valE r i s
theorem look_rel (Q : Em → Value → Prop) : ∀ (es : List Em) (lst : Mp) (i s : Int) (u : Value), lst.length = es.length → (∀ (k : Nat) (e : Em), es[k]? = some e → ∃ v, lst[k]? = some (e.i, e.s, v) ∧ Q e v) → lookP lst i s = some u → ∃ e ∈ es, e.i = i ∧ e.s = s ∧ valE es i s = firstL e.t e.zd ∧ Q e u
  | [], lst, i, s, u, hl, _, h => by
    have : lst = [] := List.eq_nil_of_length_eq_zero hl
    subst this
    cases h
  | e :: es, [], i, s, u, hl, _, h => by cases h
  | e :: es, x :: lst, i, s, u, hl, hr, h => by
    obtain ⟨v, hx, hq⟩ := hr 0 e rfl
    simp at hx
    subst hx
    simp only [lookP] at h
    by_cases hc : (i == e.i && s == e.s) = true
    · rw [if_pos hc] at h
      cases h
      obtain ⟨h1, h2⟩ : i = e.i ∧ s = e.s := by simpa using hc
      exact ⟨e, List.mem_cons_self, h1.symm, h2.symm, by simp only [valE]; rw [if_pos hc], hq⟩
    · rw [if_neg hc] at h
      obtain ⟨e', he, h1, h2, h3, h4⟩ := look_rel Q es lst i s u (by simpa using hl) (fun k e' he' => hr (k + 1) e' he') h
      exact ⟨e', List.mem_cons_of_mem _ he, h1, h2, by simp only [valE]; rw [if_neg hc]; exact h3, h4⟩
theorem newG_zero : ∀ (r a : List Em), newG a r = 0 → ∀ e ∈ r, mayE e = true
  | [], _, _, e, he => by cases he
  | x :: r, a, h, e, he => by
    simp only [newG] at h
    split at h
    · exact absurd h (by decide)
    · rename_i h1
      split at h
      · exact absurd h (by decide)
      · rcases List.mem_cons.1 he with rfl | he
        · simpa using h1
        · exact newG_zero r _ h e he
theorem newC_zero {es : List Em} (h : newC es = 0) : es.length ≤ 1024 ∧ ∀ e ∈ es, mayE e = true := by
  unfold newC at h
  split at h
  · exact absurd h (by decide)
  · exact ⟨by omega, newG_zero es [] h⟩
/-- What New made: every item is whole, and its value is the first one. -/
theorem built_items {w W : World} {lo : Nat} {es : List Em} {lst : Mp} (h : Built W lo es lst) (hc : newC es = 0) (hin : ∀ e ∈ es, EmIn w e) : ItOk W lst (valE es) := fun i s u hu => by
  obtain ⟨e, he, rfl, rfl, hv, a1, c1, a2, c2, a3, c3, v, lv, cv, rfl, k1, k2, k3, k4⟩ := look_rel (fun e u => ∃ a1 c1 a2 c2 a3 c3 v lv cv, u = .agg (itC e.i e.s e.nm e.t e.rt a1 e.ld c1 a2 e.ll c2 a3 e.lh c3 e.tg e.gr v lv cv) ∧ Kept W lo a1 e.ld c1 e.zd ∧ Kept W lo a2 e.ll c2 e.zl ∧ Kept W lo a3 e.lh c3 e.zh ∧ Kept W lo v lv cv (firstL e.t e.zd)) es lst i s u h.1 (fun k e he => by
    obtain ⟨a1, c1, a2, c2, a3, c3, v, lv, cv, g, k⟩ := h.2 k e he
    exact ⟨_, g, a1, c1, a2, c2, a3, c3, v, lv, cv, rfl, k⟩) hu
  obtain ⟨rd, rl, rh, b1, b2, b3⟩ := hin e he
  have hm := (mayB_yes ((newC_zero hc).2 e he)).2.2.2.2.2.2
  have hz : e.zd.length ≤ 16777216 := by rw [rd.row.size]; exact b1
  refine ⟨_, _, _, _, _, _, _, _, _, _, _, _, _, _, _, _, _, _, _, _, rfl, k1.1, k2.1, k3.1, ?_, b1, b2, b3, NF k4.1 hz, fun hs => ?_⟩
  · rw [hv]; exact k4.1
  · rw [← chkN_size hm hs, ← k4.1.row.size]
/-- Maps in memory, anywhere. -/
def MsO (W : World) (g off : Nat) (ms : List Mq) : Prop := ∀ (k : Nat) (x : Mq), ms[k]? = some x → W.cell? ⟨g, off + k * 3, none⟩ = some (.int .u16 x.i) ∧ W.cell? ⟨g, off + k * 3 + 1, none⟩ = some (.int .u8 x.s) ∧ W.cell? ⟨g, off + k * 3 + 2, none⟩ = some (.int .i64 (x.b : Int))
theorem MsO.next {W W' : World} {g off : Nat} {ms : List Mq} (h : MsO W g off ms) (hb : Below W.heap.size W W') : MsO W' g off ms := fun k x hx => by
  obtain ⟨h1, h2, h3⟩ := h k x hx
  exact ⟨by rw [hb.cell (p := ⟨g, off + k * 3, none⟩) (block_lt_of_cell h1)]; exact h1, by rw [hb.cell (p := ⟨g, off + k * 3 + 1, none⟩) (block_lt_of_cell h2)]; exact h2, by rw [hb.cell (p := ⟨g, off + k * 3 + 2, none⟩) (block_lt_of_cell h3)]; exact h3⟩
abbrev Mz.q (x : Mz) : Mq := ⟨x.i, x.s, x.b.toNat⟩
theorem MzAt.o {W : World} {g off : Nat} {ms : List Mz} (h : MzAt W g off ms) (hb : ∀ x ∈ ms, 0 ≤ x.b) : MsO W g off (ms.map Mz.q) := fun k x hx => by
  rw [List.getElem?_map] at hx
  obtain ⟨y, hy, rfl⟩ := Option.map_eq_some_iff.1 hx
  obtain ⟨h1, h2, h3⟩ := h k y hy
  have := hb y (List.mem_of_getElem? hy)
  exact ⟨h1, h2, by rw [h3]; show some (Value.int .i64 y.b) = some (Value.int .i64 (y.b.toNat : Int)); rw [Int.toNat_of_nonneg this]⟩
theorem sum_q : ∀ (ms : List Mz), (∀ x ∈ ms, 0 ≤ x.b) → ((((ms.map Mz.q).map (·.b)).sum : Nat) : Int) = (ms.map (·.b)).sum
  | [], _ => rfl
  | x :: l, h => by
    have := sum_q l fun y hy => h y (List.mem_cons_of_mem _ hy)
    have h0 := h x List.mem_cons_self
    simp only [List.map_cons, List.sum_cons] at this ⊢
    omega


/-- A Map that may be sent. -/
theorem cfD_va {w : World} {lst : Mp} {val : Int → Int → List Int} (ho : ItOk w lst val) {x : Mz} (hcf : cfD lst true x = 0) : VaOk w lst val x.q := by
  unfold cfD at hcf
  split at hcf
  · exact absurd hcf (by decide)
  · split at hcf
    · exact absurd hcf (miss_ne _ _)
    · rename_i u hl
      obtain ⟨nm, t, rt, d, ld, cd, l, ll, cl, h, lh, ch, tg, gr, v, lv, cv, zd, zl, zh, rfl, r1, r2, r3, r4, g1, g2, g3, g4, g5⟩ := ho _ _ _ hl
      split at hcf
      · rename_i hq
        simp only [Bool.and_eq_true] at hq
        obtain ⟨⟨_, h1⟩, h2⟩ := hq
        have h1 : hasB t x.b = true := h1
        have h2 : (!(bits .and .u8 rt 1 == 0)) = true := h2
        have hs := Ty.Pl.size_bd t
        have hb := hasB_bd h1
        have h3 : 0 < Ty.Pl.sizeN t ∧ (x.b = 8 * Ty.Pl.sizeN t ∨ t = 1 ∧ x.b = 1) := by
          simp only [hasB, Bool.and_eq_true, Bool.or_eq_true, decide_eq_true_eq, beq_iff_eq] at h1
          exact h1
        have h4 := g5 h3.1
        exact ⟨nm, t, rt, d, ld, cd, l, ll, cl, h, lh, ch, tg, gr, v, lv, cv, hl, r4, by omega, by show x.b.toNat ≤ 8 * lv; omega, by simpa using h2⟩
      · exact absurd hcf (by decide)
#print axioms built_items
end Go.Proofs.YtpjmebaipnpegaaDoor
namespace Go.Proofs.YtpjmebaipnpegaaDoor
open Go.RowKit

/-- A bit of a row. -/
def tb (zs : List Int) (k : Nat) : Bool := (zs.getD (k / 8) 0).toNat.testBit (k % 8)
theorem oct_getD {zs : List Int} (h : Oct zs) (k : Nat) : 0 ≤ zs.getD k 0 ∧ zs.getD k 0 < 256 := by
  rw [List.getD_eq_getElem?_getD]
  cases hq : zs[k]? with
  | none => simp
  | some x => exact h x (List.mem_of_getElem? hq)
theorem bitA_tb {zs : List Int} (h : Oct zs) (k : Nat) : bitA zs k = if tb zs k = true then 1 else 0 := by
  obtain ⟨h0, h1⟩ := oct_getD h (k / 8)
  unfold bitA tb
  generalize zs.getD (k / 8) 0 = x at h0 h1
  obtain ⟨n, rfl⟩ := Int.eq_ofNat_of_zero_le h0
  have hn : n < 256 := by omega
  have e1 : ((n : Int) / 2 ^ (k % 8)) = ((n / 2 ^ (k % 8) : Nat) : Int) := by rw [Int.natCast_ediv, Int.natCast_pow]; rfl
  have hl : n / 2 ^ (k % 8) < 256 := Nat.lt_of_le_of_lt (Nat.div_le_self _ _) hn
  have e2 := u8_and_nat (n / 2 ^ (k % 8)) 1 hl (by decide)
  rw [e1, show (1 : Int) = ((1 : Nat) : Int) from rfl, e2, Nat.and_one_is_mod, Int.toNat_natCast, Nat.testBit_eq_decide_div_mod_eq]
  by_cases hb : n / 2 ^ (k % 8) % 2 = 1
  · simp [hb]
  · have : n / 2 ^ (k % 8) % 2 = 0 := by omega
    simp [this]
/-- A bit as a number. -/
def nb (c : Bool) : Int := if c = true then 1 else 0
theorem nb_nat (c : Bool) : nb c = ((c.toNat : Nat) : Int) := by cases c <;> rfl
theorem orB_val {ys : List Int} (hy : Oct ys) (k : Nat) (c : Bool) : bits .or .u8 (ys.getD (k / 8) 0) (IntKind.u8.wrap (nb c * 2 ^ (k % 8))) = (((ys.getD (k / 8) 0).toNat ||| (c.toNat * 2 ^ (k % 8)) : Nat) : Int) := by
  obtain ⟨h0, h1⟩ := oct_getD hy (k / 8)
  have hp : c.toNat * 2 ^ (k % 8) < 256 := by
    have h8 : k % 8 < 8 := Nat.mod_lt _ (by decide)
    have : 2 ^ (k % 8) ≤ 2 ^ 7 := Nat.pow_le_pow_right (by decide) (by omega)
    cases c <;> simp <;> omega
  have e : nb c * 2 ^ (k % 8) = ((c.toNat * 2 ^ (k % 8) : Nat) : Int) := by rw [nb_nat, Int.natCast_mul, Int.natCast_pow]; rfl
  rw [e, show IntKind.u8.wrap ((c.toNat * 2 ^ (k % 8) : Nat) : Int) = ((c.toNat * 2 ^ (k % 8) : Nat) : Int) by rw [IntKind.wrap_u8']; omega, u8_or _ _ h0 h1 (by omega) (by omega), Int.toNat_natCast]
theorem or_lt {a b : Nat} (ha : a < 256) (hb : b < 256) : a ||| b < 256 := Nat.or_lt_two_pow (n := 8) ha hb
theorem orB_oct {ys : List Int} (hy : Oct ys) (k : Nat) (c : Bool) : Oct (orB ys k (nb c)) := fun n hn => by
  unfold orB at hn
  rw [orB_val hy] at hn
  rcases List.mem_or_eq_of_mem_set hn with h | rfl
  · exact hy n h
  · obtain ⟨h0, h1⟩ := oct_getD hy (k / 8)
    have hp : c.toNat * 2 ^ (k % 8) < 256 := by
      have h8 : k % 8 < 8 := Nat.mod_lt _ (by decide)
      have : 2 ^ (k % 8) ≤ 2 ^ 7 := Nat.pow_le_pow_right (by decide) (by omega)
      cases c <;> simp <;> omega
    have := or_lt (a := (ys.getD (k / 8) 0).toNat) (by omega) hp
    omega
theorem orB_tb {ys : List Int} (hy : Oct ys) (k : Nat) (hk : k / 8 < ys.length) (c : Bool) (j : Nat) : tb (orB ys k (nb c)) j = (tb ys j || (decide (j = k) && c)) := by
  unfold tb orB
  rw [orB_val hy]
  by_cases hj : j / 8 = k / 8
  · rw [hj, List.getD_eq_getElem?_getD, List.getElem?_set_self hk, Option.getD_some, Int.toNat_natCast, Nat.testBit_or]
    congr 1
    rw [Nat.mul_comm, Nat.testBit_two_pow_mul]
    by_cases h2 : j % 8 = k % 8
    · have : j = k := by omega
      subst this
      cases c <;> simp
    · have hne : ¬ j = k := fun e => h2 (by rw [e])
      simp only [hne, decide_false, Bool.false_and]
      by_cases h3 : k % 8 ≤ j % 8
      · simp only [h3, decide_true, Bool.true_and]
        have h4 : j % 8 - k % 8 ≠ 0 := by omega
        cases c
        · simp
        · show Nat.testBit 1 (j % 8 - k % 8) = false
          rw [show (1 : Nat) = 2 ^ 0 from rfl, Nat.testBit_two_pow]
          simp only [decide_eq_false_iff_not]
          omega
      · simp [h3]
  · have hne : ¬ j = k := fun e => hj (by rw [e])
    rw [List.getD_eq_getElem?_getD, List.getElem?_set_ne (fun e => hj e.symm), ← List.getD_eq_getElem?_getD]
    simp [hne]
/-- Bits laid, bit by bit. -/
theorem layL_tb (zs : List Int) (hz : Oct zs) (off fr cnt : Nat) (ys : List Int) (hy : Oct ys) (hl : fr + cnt ≤ 8 * ys.length) : ∀ n, n ≤ cnt → Oct (layL zs off fr ys ((bq cnt).take n)) ∧ ∀ j, tb (layL zs off fr ys ((bq cnt).take n)) j = (tb ys j || (decide (fr ≤ j ∧ j < fr + n) && tb zs (off + (j - fr))))
  | 0, _ => ⟨hy, fun j => by
      rw [show decide (fr ≤ j ∧ j < fr + 0) = false by rw [decide_eq_false_iff_not]; omega]
      simp [layL]⟩
  | n + 1, hn => by
    obtain ⟨h1, h2⟩ := layL_tb zs hz off fr cnt ys hy hl n (by omega)
    rw [← bq_at cnt n (by omega), layL_app, bitA_tb hz]
    have e : (if tb zs (off + n) = true then (1 : Int) else 0) = nb (tb zs (off + n)) := rfl
    rw [e]
    refine ⟨orB_oct h1 _ _, fun j => ?_⟩
    rw [orB_tb h1 _ (by rw [layL_len]; show (fr + n) / 8 < _; omega), h2 j, Bool.or_assoc]
    congr 1
    by_cases hj : j = fr + n
    · subst hj
      have c1 : ¬ (fr ≤ fr + n ∧ fr + n < fr + n) := by omega
      have c2 : fr ≤ fr + n ∧ fr + n < fr + (n + 1) := by omega
      have c3 : fr + n - fr = n := by omega
      simp [c3]
    · have : (fr ≤ j ∧ j < fr + n) ↔ (fr ≤ j ∧ j < fr + (n + 1)) := by omega
      simp [hj, this]
theorem layB_tb (zs : List Int) (hz : Oct zs) (off cnt fr : Nat) (ys : List Int) (hy : Oct ys) (hl : fr + cnt ≤ 8 * ys.length) : Oct (layB zs off cnt fr ys) ∧ ∀ j, tb (layB zs off cnt fr ys) j = (tb ys j || (decide (fr ≤ j ∧ j < fr + cnt) && tb zs (off + (j - fr)))) := by
  have := layL_tb zs hz off fr cnt ys hy hl cnt (Nat.le_refl _)
  rw [List.take_of_length_le (by rw [bq_len]; omega)] at this
  exact this
theorem tb_zero (R j : Nat) : tb (List.replicate R 0) j = false := by
  unfold tb
  rw [List.getD_eq_getElem?_getD, List.getElem?_replicate]
  split <;> simp
/-- What has been packed of the first ones, bit by bit. -/
theorem pk_tb (ms : List Mq) (val : Int → Int → List Int) (hv : ∀ x ∈ ms, Oct (val x.i x.s)) (R : Nat) (hR : sumB ms ms.length ≤ 8 * R) : ∀ k, k ≤ ms.length → Oct (pk ms val R k) ∧ (∀ j, sumB ms k ≤ j → tb (pk ms val R k) j = false) ∧ ∀ i x j, i < k → ms[i]? = some x → sumB ms i ≤ j → j < sumB ms (i + 1) → tb (pk ms val R k) j = tb (val x.i x.s) (j - sumB ms i)
  | 0, _ => ⟨fun n hn => by have := (List.mem_replicate.1 hn).2; subst this; decide, fun j _ => tb_zero R j, fun i x j hi => by omega⟩
  | k + 1, hk => by
    obtain ⟨h1, h2, h3⟩ := pk_tb ms val hv R hR k (by omega)
    obtain ⟨x, hx⟩ : ∃ x, ms[k]? = some x := ⟨_, List.getElem?_eq_getElem (by omega)⟩
    have hs := sumB_succ hx
    have hle := sumB_le ms (k := k + 1) (j := ms.length) hk
    obtain ⟨g1, g2⟩ := layB_tb (val x.i x.s) (hv x (List.mem_of_getElem? hx)) 0 x.b (sumB ms k) (pk ms val R k) h1 (by rw [pk_len]; omega)
    rw [pk_succ hx]
    refine ⟨g1, fun j hj => ?_, fun i y j hi hy hj1 hj2 => ?_⟩
    · rw [g2, h2 j (by omega)]
      have : ¬ (sumB ms k ≤ j ∧ j < sumB ms k + x.b) := by omega
      simp [this]
    · rw [g2]
      by_cases hik : i = k
      · subst hik
        rw [hx] at hy
        cases hy
        rw [h2 j hj1]
        have : sumB ms i ≤ j ∧ j < sumB ms i + x.b := by omega
        simp [this]
      · have hl := sumB_le ms (k := i + 1) (j := k) (by omega)
        rw [h3 i y j (by omega) hy hj1 hj2]
        have : ¬ (sumB ms k ≤ j ∧ j < sumB ms k + x.b) := by omega
        simp [this]
#print axioms pk_tb
end Go.Proofs.YtpjmebaipnpegaaDoor
namespace Go.Proofs.YtpjmebaipnpegaaDoor
open Go.RowKit

/-- Is a Map a gap? -/
def gpB (x : Mq) : Bool := gapB x.i x.s (x.b : Int)
/-- The code of values that are refused. -/
def unC (mc : Mq → List Int → Int) (zs : List Int) : List Mq → Nat → Int
  | [], _ => 0
  | x :: l, n => if gpB x = true then unC mc zs l (n + x.b) else if mc x (tkB zs n x.b) ≠ 0 then mc x (tkB zs n x.b) else unC mc zs l (n + x.b)
/-- The values that are unpacked. -/
def unV (zs : List Int) : List Mq → Nat → List (Int × Int × List Int)
  | [], _ => []
  | x :: l, n => if gpB x = true then unV zs l (n + x.b) else (x.i, x.s, tkB zs n x.b) :: unV zs l (n + x.b)
/-- Values in memory. -/
def Vs (W : World) (base : Nat) (us : List Vq) (rs : List (Int × Int × List Int)) : Prop := us.length = rs.length ∧ ∀ (j : Nat) (r : Int × Int × List Int), rs[j]? = some r → ∃ g, us[j]? = some ⟨r.1, r.2.1, g, r.2.2.length⟩ ∧ base ≤ g ∧ W.heap[g]? = some (.cells (r.2.2.map (Value.int .u8)).toArray 5 (0, 0))
theorem vs_nil (W : World) (base : Nat) : Vs W base [] [] := ⟨rfl, fun j r h => by simp at h⟩
theorem Vs.mv {W W' : World} {base : Nat} {us : List Vq} {rs : List (Int × Int × List Int)} (h : Vs W base us rs) (hk : ∀ (g : Nat) (C : Array Value), W.heap[g]? = some (.cells C 5 (0, 0)) → W'.heap[g]? = some (.cells C 5 (0, 0))) : Vs W' base us rs := ⟨h.1, fun j r hr => by
  obtain ⟨g, h1, h2, h3⟩ := h.2 j r hr
  exact ⟨g, h1, h2, hk _ _ h3⟩⟩
theorem Vs.app {W : World} {base : Nat} {us : List Vq} {rs : List (Int × Int × List Int)} (h : Vs W base us rs) {i s : Int} {zb : List Int} {g n : Nat} (hn : zb.length = n) (hg : base ≤ g) (hh : W.heap[g]? = some (.cells (zb.map (Value.int .u8)).toArray 5 (0, 0))) : Vs W base (us ++ [⟨i, s, g, n⟩]) (rs ++ [(i, s, zb)]) := by
  refine ⟨by simp [h.1], fun j r hr => ?_⟩
  have hl := h.1
  rcases Nat.lt_or_ge j rs.length with hj | hj
  · rw [List.getElem?_append_left hj] at hr
    obtain ⟨g', h1, h2, h3⟩ := h.2 j r hr
    exact ⟨g', by rw [List.getElem?_append_left (by omega)]; exact h1, h2, h3⟩
  · rw [List.getElem?_append_right hj] at hr
    have h0 : j - rs.length = 0 := by
      have := (List.getElem?_eq_some_iff.1 hr).1
      simp at this
      omega
    rw [h0] at hr
    simp at hr
    subst hr
    exact ⟨g, by rw [List.getElem?_append_right (by omega), hl, h0]; simp [hn], hg, hh⟩
theorem tkB_oct {zs : List Int} (hz : Oct zs) (nx n : Nat) : Oct (tkB zs nx n) := (layB_tb zs hz nx n 0 (List.replicate ((n + 7) / 8) 0) (fun y hy => by have := (List.mem_replicate.1 hy).2; subst this; decide) (by simp; omega)).1
set_option linter.unusedSimpArgs false in
set_option maxHeartbeats 4000000 in
set_option maxRecDepth 100000 in
theorem may_code (p m : Nat) (cg : Int) (lst : Mp) (i s : Int) (nm : ByteArray) (t rt : Int) (d : Option Addr) (ld cd : Nat) (l : Option Addr) (ll cl : Nat) (h : Option Addr) (lh ch : Nat) (tg gr : Int) (v : Option Addr) (lv cv : Nat) (b : Option Addr) (lb cb : Nat) (zb zl zh : List Int) (w : World) (hp : w.heap[p]? = some (.cells #[.map (some m), .int .i64 cg] 50 (0, 0))) (hm : IsM w m lst) (hl : lookP lst i s = some (.agg (itC i s nm t rt d ld cd l ll cl h lh ch tg gr v lv cv))) (rb : SlOk w b lb cb zb) (rl : SlOk w l ll cl zl) (rh : SlOk w h lh ch zh) (hT : Ty.Tab64 w)
    (hr : (bits .and .u8 rt 2 != 0) = true) (c : Int) (hc : Ty.chkN t zb zl zh = c) :
    Calls Tryd.prog 24 #[.pointer (some ⟨p, 0, none⟩), plV i s, .slice b lb cb] w fun e w' => ∃ g, e = .returned (.tuple #[.int .u8 g, .int .u32 c]) ∧ Below w.heap.size w w' := by
  have HF : Hid (∀ W, Below w.heap.size w W → Calls Tryd.prog 33 #[.pointer (some ⟨p, 0, none⟩), plV i s] W fun e w' => e = .returned (.tuple #[.agg (itC i s nm t rt d ld cd l ll cl h lh ch tg gr v lv cv), .int .u32 0]) ∧ Below W.heap.size W w') := fun W hb => find_at p m cg lst i s nm t rt d ld cd l ll cl h lh ch tg gr v lv cv W (blk11 hb hp) (hm.next hb) hl
  have HH : Hid (∀ W, Calls Tryd.prog 34 #[.agg (itC i s nm t rt d ld cd l ll cl h lh ch tg gr v lv cv), .int .u8 2] W fun e w' => e = .returned (.bool true) ∧ Below W.heap.size W w') := fun W => by
    have := has_any i s nm t rt d ld cd l ll cl h lh ch tg gr v lv cv 2 W
    rw [hr] at this
    exact this
  have HC : Hid (∀ W, Below w.heap.size w W → Calls Tryd.prog 28 #[.agg (itC i s nm t rt d ld cd l ll cl h lh ch tg gr v lv cv), .slice b lb cb] W fun e w' => e = .returned (.int .u32 c) ∧ Below W.heap.size W w') := fun W hb => by
    have := icheck_any i s nm t rt d ld cd l ll cl h lh ch tg gr v lv cv b lb cb zb zl zh W (rb.next hb) (rl.next hb) (rh.next hb) (tab_next hT hb)
    rw [hc] at this
    exact this
  clear hp hm hl rb rl rh hT hr hc
  go_enter Tryd.func24, Tryd.ntmps24
  go_wp2_with fail
  refine (HF.out _ (by repeat (first | exact Below.refl _ _ | apply Below.drew | apply Below.al))).mono ?_
  rintro e w1 ⟨rfl, hb⟩
  have B1 : Hid (Below w.heap.size w w1) := Below.andThen (by repeat (first | exact Below.refl _ _ | apply Below.drew | apply Below.al)) hb
  clear hb
  go_wp2_with fail
  refine (HH.out _).mono ?_
  rintro e w2 ⟨rfl, hb⟩
  have B2 : Hid (Below w.heap.size w w2) := Below.andThen (Below.al B1.out _) hb
  have X2 : Hid (w2.heap[w1.heap.size]? = some (.cells (itC i s nm t rt d ld cd l ll cl h lh ch tg gr v lv cv) 54 (0, 0))) := blk11 hb (at11 _ _ _ rfl)
  have l2 := lt_of_heap X2.out
  clear hb
  go_wp2_with (refine wpList_load_by rfl 54 _ rfl ⟨w1.heap.size, 0, none⟩ _ rfl (loadI _ _ i s nm t rt d ld cd l ll cl h lh ch tg gr v lv cv _ X2.out) ?_)
  refine (HC.out _ B2.out).mono ?_
  rintro e w3 ⟨rfl, hb⟩
  have B3 : Hid (Below w.heap.size w w3) := Below.andThen B2.out hb
  have X3 : Hid (w3.heap[w1.heap.size]? = some (.cells (itC i s nm t rt d ld cd l ll cl h lh ch tg gr v lv cv) 54 (0, 0))) := blk11 hb X2.out
  have c8 : w3.cell? ⟨w1.heap.size, 8, none⟩ = some (.int .u8 tg) := by rw [cell_of_row _ _ 8 _ _ _ X3.out]; rfl
  clear hb
  by_cases hc0 : c = 0
  · subst hc0
    go_wp2_with fail
    go_ret2
    exact ⟨_, rfl, B3.out⟩
  · go_wp2_with fail
    go_ret2
    exact ⟨_, rfl, B3.out⟩

#print axioms may_code
end Go.Proofs.YtpjmebaipnpegaaDoor
namespace Go.Proofs.YtpjmebaipnpegaaDoor
open Go.RowKit



theorem row_own {w : World} {g n : Nat} {zb : List Int} (hn : zb.length = n) (ho : Oct zb) (hh : w.heap[g]? = some (.cells (zb.map (Value.int .u8)).toArray 5 (0, 0))) : Row w (some ⟨g, 0, none⟩) n zb := ⟨hn, ho, fun _ => ⟨g, 0, rfl, fun i hi => by
  rw [cell_of_row _ _ (0 + i) _ _ _ hh, List.getElem?_toArray, List.getElem?_map, Nat.zero_add, List.getElem?_eq_getElem (by omega)]
  simp [List.getD_eq_getElem?_getD, List.getElem?_eq_getElem (show i < zb.length by omega)]⟩⟩
theorem gpB_q {x : Mz} (h : 0 ≤ x.b) : gpB x.q = gapB x.i x.s x.b := by
  unfold gpB
  show gapB x.i x.s (x.b.toNat : Int) = _
  rw [Int.toNat_of_nonneg h]
/-- What May says of the places of a dictionary. -/
def MayC (p : Nat) (lst : Mp) (w : World) (mc : Mq → List Int → Int) : Prop := ∀ x : Mz, cfD lst false x = 0 → gpB x.q = false → ∀ W, Below w.heap.size w W → ∀ zb g, zb.length = (x.q.b + 7) / 8 → Oct zb → W.heap[g]? = some (.cells (zb.map (Value.int .u8)).toArray 5 (0, 0)) → Calls Tryd.prog 24 #[.pointer (some ⟨p, 0, none⟩), plV x.i x.s, .slice (some ⟨g, 0, none⟩) ((x.q.b + 7) / 8) ((x.q.b + 7) / 8)] W fun e w' => ∃ tg, e = .returned (.tuple #[.int .u8 tg, .int .u32 (mc x.q zb)]) ∧ Below W.heap.size W w'
theorem MayC.next {p : Nat} {lst : Mp} {w w' : World} {mc : Mq → List Int → Int} (h : MayC p lst w mc) (hb : Below w.heap.size w w') : MayC p lst w' mc := fun x h1 h2 W hW => h x h1 h2 W (Below.andThen hb hW)
theorem may_all (p m : Nat) (cg : Int) (lst : Mp) (val : Int → Int → List Int) (w : World) (hp : w.heap[p]? = some (.cells #[.map (some m), .int .i64 cg] 50 (0, 0))) (hm : IsM w m lst) (ho : ItOk w lst val) (hT : Ty.Tab64 w) : ∃ mc, MayC p lst w mc := by
  have each : ∀ q : Mq, ∃ f : List Int → Int, ∀ x : Mz, x.q = q → cfD lst false x = 0 → gpB x.q = false → ∀ W, Below w.heap.size w W → ∀ zb g, zb.length = (x.q.b + 7) / 8 → Oct zb → W.heap[g]? = some (.cells (zb.map (Value.int .u8)).toArray 5 (0, 0)) → Calls Tryd.prog 24 #[.pointer (some ⟨p, 0, none⟩), plV x.i x.s, .slice (some ⟨g, 0, none⟩) ((x.q.b + 7) / 8) ((x.q.b + 7) / 8)] W fun e w' => ∃ tg, e = .returned (.tuple #[.int .u8 tg, .int .u32 (f zb)]) ∧ Below W.heap.size W w' := fun q => by
    cases hl : lookP lst q.i q.s with
    | none =>
      refine ⟨fun _ => 0, fun x hx hc hg => ?_⟩
      subst hx
      exfalso
      have hb := cfD_bd hc
      rw [gpB_q hb.1] at hg
      unfold cfD at hc
      have hl : lookP lst x.i x.s = none := hl
      rw [if_neg (by rw [hg]; decide), hl] at hc
      exact absurd hc (miss_ne _ _)
    | some u =>
      obtain ⟨nm, t, rt, d, ld, cd, l, ll, cl, h, lh, ch, tg, gr, v, lv, cv, zd, zl, zh, rfl, r1, r2, r3, r4, g1, g2, g3, g4, g5⟩ := ho _ _ _ hl
      refine ⟨fun zb => Ty.chkN t zb zl zh, fun x hx hc hg W hW zb g hn hO hh => ?_⟩
      subst hx
      have hb := cfD_bd hc
      rw [gpB_q hb.1] at hg
      have hr : (bits .and .u8 rt 2 != 0) = true := by
        unfold cfD at hc
        have hl : lookP lst x.i x.s = _ := hl
        rw [if_neg (by rw [hg]; decide), hl] at hc
        simp only at hc
        split at hc
        · rename_i hq
          simp only [Bool.and_eq_true] at hq
          have h2 : (!(bits .and .u8 rt 2 == 0)) = true := hq.2
          simpa using h2
        · exact absurd hc (by decide)
      have h64 : (x.q.b + 7) / 8 ≤ 8 := by show (x.b.toNat + 7) / 8 ≤ 8; omega
      exact may_code p m cg lst x.i x.s nm t rt d ld cd l ll cl h lh ch tg gr v lv cv (some ⟨g, 0, none⟩) _ _ zb zl zh W (blk11 hW hp) (hm.next hW) hl ⟨row_own hn hO hh, Nat.le_refl _, by unfold maxLen; omega⟩ (r2.next hW) (r3.next hW) (tab_next hT hW) hr _ rfl
  obtain ⟨f, hf⟩ := Classical.axiomOfChoice each
  exact ⟨f, fun x => hf x.q x rfl⟩
theorem chkC_zeroB {lst : Mp} {out : Bool} {ms : List Mz} (h : chkC lst out ms = 0) : ms.length ≤ 64 ∧ (∀ x ∈ ms, cfD lst out x = 0) ∧ (∀ x ∈ ms, 0 ≤ x.b) ∧ sumB (ms.map Mz.q) ms.length ≤ 64 := by
  have hl : ms.length ≤ 64 := by
    unfold chkC at h
    split at h
    · exact absurd h (by decide)
    · omega
  have hz : (∀ x ∈ ms, cfD lst out x = 0) ∧ 0 + (ms.map (·.b)).sum ≤ 64 := by
    unfold chkC at h
    rw [if_neg (by omega)] at h
    exact chkZ_zero _ ms 0 h (by decide)
  have hb : ∀ x ∈ ms, 0 ≤ x.b := fun x hx => (cfD_bd (hz.1 x hx)).1
  refine ⟨hl, hz.1, hb, ?_⟩
  unfold sumB
  rw [List.take_of_length_le (by simp)]
  have := sum_q ms hb
  omega
/-- Unpack's code, of a mapping that may be. -/
def unR (mc : Mq → List Int → Int) (zs : List Int) (qs : List Mq) : Int := if zs.length < (sumB qs qs.length + 7) / 8 then 101122064 else unC mc zs qs 0
theorem bitA_drop (zs : List Int) (n k : Nat) : bitA zs (8 * n + k) = bitA (zs.drop n) k := by
  unfold bitA
  rw [show (8 * n + k) / 8 = n + k / 8 by omega, show (8 * n + k) % 8 = k % 8 by omega, List.getD_eq_getElem?_getD, List.getD_eq_getElem?_getD, List.getElem?_drop]
theorem layL_drop (zs : List Int) (n off fr : Nat) {cnt : Nat} (ys : List Int) (pre : List (BX cnt)) : layL zs (8 * n + off) fr ys pre = layL (zs.drop n) off fr ys pre := by
  unfold layL
  induction pre generalizing ys with
  | nil => rfl
  | cons x l ih => simp only [List.foldl_cons]; rw [Nat.add_assoc (8 * n), bitA_drop]; exact ih _
theorem tkB_drop (zs : List Int) (n nx b : Nat) : tkB zs (8 * n + nx) b = tkB (zs.drop n) nx b := layL_drop zs n nx 0 _ _
theorem unC_drop (mc : Mq → List Int → Int) (zs : List Int) (n : Nat) : ∀ (l : List Mq) (k : Nat), unC mc zs l (8 * n + k) = unC mc (zs.drop n) l k
  | [], _ => rfl
  | x :: l, k => by simp only [unC]; rw [tkB_drop, Nat.add_assoc, unC_drop mc zs n l (k + x.b)]
theorem unV_drop (zs : List Int) (n : Nat) : ∀ (l : List Mq) (k : Nat), unV zs l (8 * n + k) = unV (zs.drop n) l k
  | [], _ => rfl
  | x :: l, k => by simp only [unV]; rw [tkB_drop, Nat.add_assoc, unV_drop zs n l (k + x.b)]
theorem chkZ_mono (cf : Mz → Int) : ∀ (ms : List Mz) (n k : Int), chkZ cf ms n = 0 → k ≤ n → chkZ cf ms k = 0
  | [], _, _, _, _ => rfl
  | x :: l, n, k, h, hk => by
    simp only [chkZ] at h ⊢
    split at h
    · rename_i h1; exact absurd h h1
    · rename_i h1
      split at h
      · exact absurd h (by decide)
      · rename_i h2
        rw [if_neg h1, if_neg (by omega)]
        exact chkZ_mono cf l _ _ h (by omega)
/-- A gap ahead of a mapping. -/
def gapZ (n : Nat) (t : Int) : Mz := ⟨t, 0, ((8 * n : Nat) : Int)⟩
theorem sumB_cons (x : Mq) (l : List Mq) (k : Nat) : sumB (x :: l) (k + 1) = x.b + sumB l k := by unfold sumB; simp
theorem gap_ahead (lst : Mp) (mc : Mq → List Int → Int) (zs : List Int) (n : Nat) (t : Int) (ms : List Mz) (hg : gapB t 0 ((8 * n : Nat) : Int) = true) (hl : n ≤ zs.length) (hc : chkC lst false (gapZ n t :: ms) = 0) : chkC lst false ms = 0 ∧ unR mc zs ((gapZ n t :: ms).map Mz.q) = unR mc (zs.drop n) (ms.map Mz.q) ∧ unV zs ((gapZ n t :: ms).map Mz.q) 0 = unV (zs.drop n) (ms.map Mz.q) 0 := by
  have gq : gpB (gapZ n t).q = true := by rw [gpB_q (by show (0 : Int) ≤ ((8 * n : Nat) : Int); omega)]; exact hg
  have bq : (gapZ n t).q.b = 8 * n := rfl
  refine ⟨?_, ?_, ?_⟩
  · unfold chkC at hc ⊢
    split at hc
    · exact absurd hc (by decide)
    · rename_i h1
      rw [if_neg (by simp at h1; omega)]
      have h2 := (show chkZ (cfD lst false) (gapZ n t :: ms) 0 = 0 from hc)
      simp only [chkZ] at h2
      split at h2
      · rename_i h3; exact absurd h2 h3
      · split at h2
        · exact absurd h2 (by decide)
        · exact chkZ_mono _ ms _ 0 h2 (by show (0 : Int) ≤ 0 + ((8 * n : Nat) : Int); omega)
  · unfold unR
    rw [List.map_cons, List.length_cons, sumB_cons, bq, List.length_drop]
    have e1 : unC mc zs ((gapZ n t).q :: ms.map Mz.q) 0 = unC mc (zs.drop n) (ms.map Mz.q) 0 := by
      simp only [unC]
      rw [if_pos gq, show (0 + (gapZ n t).b.toNat) = 8 * n + 0 by show 0 + ((8 * n : Nat) : Int).toNat = _; omega, unC_drop]
    rw [e1]
    by_cases h : zs.length < (8 * n + sumB (ms.map Mz.q) (ms.map Mz.q).length + 7) / 8
    · rw [if_pos h, if_pos (by omega)]
    · rw [if_neg h, if_neg (by omega)]
  · rw [List.map_cons]
    simp only [unV]
    rw [if_pos gq, show (0 + (gapZ n t).b.toNat) = 8 * n + 0 by show 0 + ((8 * n : Nat) : Int).toNat = _; omega, unV_drop]
#print axioms gap_ahead
end Go.Proofs.YtpjmebaipnpegaaDoor
namespace Go.Proofs.YtpjmebaipnpegaaDoor
open Go.RowKit

/-- What an item of a dictionary is. -/
structure It where
  t : Int
  rt : Int
  tg : Int
  zl : List Int
  zh : List Int
  zv : List Int
/-- The items of a dictionary, place by place. -/
def ItD (W : World) (lst : Mp) (I : Int → Int → Option It) : Prop := ∀ i s : Int, (lookP lst i s = none ∧ I i s = none) ∨ ∃ x : It, I i s = some x ∧ ∃ nm d ld cd l ll cl h lh ch gr v lv cv zd, lookP lst i s = some (.agg (itC i s nm x.t x.rt d ld cd l ll cl h lh ch x.tg gr v lv cv)) ∧ SlOk W d ld cd zd ∧ SlOk W l ll cl x.zl ∧ SlOk W h lh ch x.zh ∧ SlOk W v lv cv x.zv ∧ ld ≤ 16777216 ∧ ll ≤ 16777216 ∧ lh ≤ 16777216 ∧ lv ≤ 16777216 ∧ (0 < Ty.Pl.sizeN x.t → (lv : Int) = Ty.Pl.sizeN x.t)
theorem ItD.next {W W' : World} {lst : Mp} {I : Int → Int → Option It} (h : ItD W lst I) (hb : Below W.heap.size W W') : ItD W' lst I := fun i s => by
  rcases h i s with h | ⟨x, hx, nm, d, ld, cd, l, ll, cl, h, lh, ch, gr, v, lv, cv, zd, e, r1, r2, r3, r4, r5⟩
  · exact .inl h
  · exact .inr ⟨x, hx, nm, d, ld, cd, l, ll, cl, h, lh, ch, gr, v, lv, cv, zd, e, r1.next hb, r2.next hb, r3.next hb, r4.next hb, r5⟩
/-- The values of a dictionary. -/
def valI (I : Int → Int → Option It) (i s : Int) : List Int := match I i s with
  | none => []
  | some x => x.zv
theorem ItD.ok {W : World} {lst : Mp} {I : Int → Int → Option It} (h : ItD W lst I) : ItOk W lst (valI I) := fun i s u hu => by
  rcases h i s with ⟨h, _⟩ | ⟨x, hx, nm, d, ld, cd, l, ll, cl, h, lh, ch, gr, v, lv, cv, zd, e, r1, r2, r3, r4, g1, g2, g3, g4, g5⟩
  · rw [h] at hu; cases hu
  · rw [e] at hu
    cases hu
    exact ⟨nm, x.t, x.rt, d, ld, cd, l, ll, cl, h, lh, ch, x.tg, gr, v, lv, cv, zd, x.zl, x.zh, rfl, r1, r2, r3, by unfold valI; rw [hx]; exact r4, g1, g2, g3, g4, g5⟩
/-- May's code of a place and bytes. -/
def mayK (lst : Mp) (I : Int → Int → Option It) (i s : Int) (zb : List Int) : Int := match I i s with
  | none => missC lst i
  | some x => if (bits .and .u8 x.rt 2 != 0) = true then Ty.chkN x.t zb x.zl x.zh else 100728834

set_option linter.unusedSimpArgs false in
set_option maxHeartbeats 4000000 in
set_option maxRecDepth 100000 in
theorem may_miss (p m : Nat) (cg : Int) (lst : Mp) (i s : Int) (b : Option Addr) (lb cb : Nat) (w : World) (hp : w.heap[p]? = some (.cells #[.map (some m), .int .i64 cg] 50 (0, 0))) (hm : IsM w m lst) (hl : lookP lst i s = none) (mc : Int) (hmc : mc = missC lst i) :
    Calls Tryd.prog 24 #[.pointer (some ⟨p, 0, none⟩), plV i s, .slice b lb cb] w fun e w' => ∃ g, e = .returned (.tuple #[.int .u8 g, .int .u32 mc]) ∧ Below w.heap.size w w' := by
  have HF : Hid (∀ W, Below w.heap.size w W → Calls Tryd.prog 33 #[.pointer (some ⟨p, 0, none⟩), plV i s] W fun e w' => e = .returned (.tuple #[.agg (itC 0 0 ⟨#[]⟩ 0 0 none 0 0 none 0 0 none 0 0 0 0 none 0 0), .int .u32 mc]) ∧ Below W.heap.size W w') := fun W hb => by rw [hmc]; exact find_miss p m cg lst i s W (blk11 hb hp) (hm.next hb) hl
  have mz : mc ≠ 0 := by rw [hmc]; exact miss_ne lst i
  clear hp hm hl hmc
  go_enter Tryd.func24, Tryd.ntmps24
  go_wp2_with fail
  refine (HF.out _ (by repeat (first | exact Below.refl _ _ | apply Below.drew | apply Below.al))).mono ?_
  rintro e w1 ⟨rfl, hb⟩
  have B1 : Hid (Below w.heap.size w w1) := Below.andThen (by repeat (first | exact Below.refl _ _ | apply Below.drew | apply Below.al)) hb
  clear hb
  go_wp2_with fail
  go_ret2
  exact ⟨_, rfl, Below.al B1.out _⟩
set_option linter.unusedSimpArgs false in
set_option maxHeartbeats 4000000 in
set_option maxRecDepth 100000 in
theorem may_ro (p m : Nat) (cg : Int) (lst : Mp) (i s : Int) (nm : ByteArray) (t rt : Int) (d : Option Addr) (ld cd : Nat) (l : Option Addr) (ll cl : Nat) (h : Option Addr) (lh ch : Nat) (tg gr : Int) (v : Option Addr) (lv cv : Nat) (b : Option Addr) (lb cb : Nat) (w : World) (hp : w.heap[p]? = some (.cells #[.map (some m), .int .i64 cg] 50 (0, 0))) (hm : IsM w m lst) (hl : lookP lst i s = some (.agg (itC i s nm t rt d ld cd l ll cl h lh ch tg gr v lv cv)))
    (hr : (bits .and .u8 rt 2 != 0) = false) :
    Calls Tryd.prog 24 #[.pointer (some ⟨p, 0, none⟩), plV i s, .slice b lb cb] w fun e w' => ∃ g, e = .returned (.tuple #[.int .u8 g, .int .u32 100728834]) ∧ Below w.heap.size w w' := by
  have HF : Hid (∀ W, Below w.heap.size w W → Calls Tryd.prog 33 #[.pointer (some ⟨p, 0, none⟩), plV i s] W fun e w' => e = .returned (.tuple #[.agg (itC i s nm t rt d ld cd l ll cl h lh ch tg gr v lv cv), .int .u32 0]) ∧ Below W.heap.size W w') := fun W hb => find_at p m cg lst i s nm t rt d ld cd l ll cl h lh ch tg gr v lv cv W (blk11 hb hp) (hm.next hb) hl
  have HH : Hid (∀ W, Calls Tryd.prog 34 #[.agg (itC i s nm t rt d ld cd l ll cl h lh ch tg gr v lv cv), .int .u8 2] W fun e w' => e = .returned (.bool false) ∧ Below W.heap.size W w') := fun W => by
    have := has_any i s nm t rt d ld cd l ll cl h lh ch tg gr v lv cv 2 W
    rw [hr] at this
    exact this
  clear hp hm hl hr
  go_enter Tryd.func24, Tryd.ntmps24
  go_wp2_with fail
  refine (HF.out _ (by repeat (first | exact Below.refl _ _ | apply Below.drew | apply Below.al))).mono ?_
  rintro e w1 ⟨rfl, hb⟩
  have B1 : Hid (Below w.heap.size w w1) := Below.andThen (by repeat (first | exact Below.refl _ _ | apply Below.drew | apply Below.al)) hb
  clear hb
  go_wp2_with fail
  refine (HH.out _).mono ?_
  rintro e w2 ⟨rfl, hb⟩
  have B2 : Hid (Below w.heap.size w w2) := Below.andThen (Below.al B1.out _) hb
  clear hb
  go_wp2_with fail
  go_ret2
  exact ⟨_, rfl, B2.out⟩
/-- May of any place. -/
theorem may_dic (p m : Nat) (cg : Int) (lst : Mp) (I : Int → Int → Option It) (i s : Int) (b : Option Addr) (lb cb : Nat) (zb : List Int) (w : World) (hp : w.heap[p]? = some (.cells #[.map (some m), .int .i64 cg] 50 (0, 0))) (hm : IsM w m lst) (hI : ItD w lst I) (rb : SlOk w b lb cb zb) (hT : Ty.Tab64 w) :
    Calls Tryd.prog 24 #[.pointer (some ⟨p, 0, none⟩), plV i s, .slice b lb cb] w fun e w' => ∃ g, e = .returned (.tuple #[.int .u8 g, .int .u32 (mayK lst I i s zb)]) ∧ Below w.heap.size w w' := by
  rcases hI i s with ⟨h1, h2⟩ | ⟨x, hx, nm, d, ld, cd, l, ll, cl, h, lh, ch, gr, v, lv, cv, zd, e, r1, r2, r3, r4, g1, g2, g3, g4, g5⟩
  · rw [show mayK lst I i s zb = missC lst i by unfold mayK; rw [h2]]
    exact may_miss p m cg lst i s b lb cb w hp hm h1 _ rfl
  · cases hr : (bits .and .u8 x.rt 2 != 0) with
    | false =>
      rw [show mayK lst I i s zb = 100728834 by unfold mayK; rw [hx]; simp only; rw [hr]; rfl]
      exact may_ro p m cg lst i s nm x.t x.rt d ld cd l ll cl h lh ch x.tg gr v lv cv b lb cb w hp hm e hr
    | true =>
      rw [show mayK lst I i s zb = Ty.chkN x.t zb x.zl x.zh by unfold mayK; rw [hx]; simp only; rw [hr]; rfl]
      exact may_code p m cg lst i s nm x.t x.rt d ld cd l ll cl h lh ch x.tg gr v lv cv b lb cb zb x.zl x.zh w hp hm e rb r2 r3 hT hr _ rfl
set_option linter.unusedSimpArgs false in
set_option maxHeartbeats 4000000 in
set_option maxRecDepth 100000 in
theorem write_no (pv : Value) (i s : Int) (b : Option Addr) (lb cb : Nat) (mc : Int) (hmc : mc ≠ 0) (w : World) (HM : ∀ W, Below w.heap.size w W → Calls Tryd.prog 24 #[pv, plV i s, .slice b lb cb] W fun e w' => ∃ g, e = .returned (.tuple #[.int .u8 g, .int .u32 mc]) ∧ Below W.heap.size W w') :
    Calls Tryd.prog 9 #[pv, plV i s, .slice b lb cb] w fun e w' => e = .returned (.int .u32 mc) ∧ Below w.heap.size w w' := by
  have HMM : Hid (∀ W, Below w.heap.size w W → Calls Tryd.prog 24 #[pv, plV i s, .slice b lb cb] W fun e w' => ∃ g, e = .returned (.tuple #[.int .u8 g, .int .u32 mc]) ∧ Below W.heap.size W w') := HM
  clear HM
  go_enter Tryd.func9, Tryd.ntmps9
  go_wp2_with fail
  refine (HMM.out _ (by repeat (first | exact Below.refl _ _ | apply Below.drew | apply Below.al))).mono ?_
  rintro e w1 ⟨g, rfl, hb⟩
  have B1 : Hid (Below w.heap.size w w1) := Below.andThen (by repeat (first | exact Below.refl _ _ | apply Below.drew | apply Below.al)) hb
  clear hb
  go_wp2_with fail
  go_ret
  exact ⟨rfl, B1.out⟩
#print axioms may_dic
#print axioms write_no
end Go.Proofs.YtpjmebaipnpegaaDoor
namespace Go.Proofs.YtpjmebaipnpegaaDoor
open Go.RowKit

theorem lookP_put : ∀ (lst : Mp) (i s : Int) (v : Value) (j r : Int), lookP (putP lst i s v) j r = if (j == i && r == s) = true then some v else lookP lst j r
  | [], i, s, v, j, r => by simp only [putP, lookP]
  | x :: l, i, s, v, j, r => by
    simp only [putP]
    split
    · rename_i h
      obtain ⟨h1, h2⟩ : i = x.1 ∧ s = x.2.1 := by simpa using h
      simp only [lookP]
      rw [h1, h2]
      by_cases hc : (j == x.1 && r == x.2.1) = true
      · rw [if_pos hc, if_pos hc]
      · rw [if_neg hc, if_neg hc, if_neg hc]
    · rename_i h
      simp only [lookP]
      rw [lookP_put l i s v j r]
      by_cases hc : (j == x.1 && r == x.2.1) = true
      · have hn : ¬ (j == i && r == s) = true := fun h2 => by
          obtain ⟨a1, a2⟩ : j = x.1 ∧ r = x.2.1 := by simpa using hc
          obtain ⟨b1, b2⟩ : j = i ∧ r = s := by simpa using h2
          exact h (by rw [← b1, ← b2]; exact hc)
        rw [if_pos hc, if_neg hn, if_pos hc]
      · rw [if_neg hc, if_neg hc]
theorem SlOk.kpD {w w' : World} {a : Option Addr} {len cap : Nat} {zs : List Int} (h : SlOk w a len cap zs) {p m : Nat} {cg : Int} {lst : Mp} (hp : w.heap[p]? = some (.cells #[.map (some m), .int .i64 cg] 50 (0, 0))) (hm : IsM w m lst) (hk : Kp [p, m] w w') : SlOk w' a len cap zs := ⟨⟨h.row.size, h.row.oct, fun hpos => by
  obtain ⟨b, off, e, hc⟩ := h.row.at_ hpos
  refine ⟨b, off, e, fun i hi => ?_⟩
  have c := hc i hi
  have hne : b ∉ [p, m] := fun hmem => by
    simp at hmem
    rcases hmem with rfl | rfl
    · rw [cell_of_row _ _ _ _ _ _ hp] at c
      rcases (by omega : off + i = 0 ∨ off + i = 1 ∨ 2 ≤ off + i) with q | q | q
      · rw [q] at c; simp at c
      · rw [q] at c; simp at c
      · rw [Array.getElem?_eq_none (by simpa using q)] at c
        cases c
    · obtain ⟨es, ck, hmm, _⟩ := hm
      simp [World.cell?, hmm] at c
  rw [World.cell?_of_block (w := w) (hk.block b (block_lt_of_cell c) hne)]
  exact c⟩, h.le, h.max⟩
/-- Items with another value at a place. -/
def putI (I : Int → Int → Option It) (i s : Int) (zb : List Int) : Int → Int → Option It := fun j r => if (j == i && r == s) = true then (I i s).map (fun x => { x with zv := zb }) else I j r
/-- Write of any place. -/
theorem write_dic (p m : Nat) (cg : Int) (lst : Mp) (I : Int → Int → Option It) (i s : Int) (b : Option Addr) (lb cb : Nat) (zb : List Int) (w : World) (hp : w.heap[p]? = some (.cells #[.map (some m), .int .i64 cg] 50 (0, 0))) (hm : IsM w m lst) (hI : ItD w lst I) (rb : SlOk w b lb cb zb) (hT : Ty.Tab64 w) (hlb : lb ≤ 16777216) (hc0 : 0 ≤ cg) (hc1 : cg < 4611686018427387904) (hne : p ≠ m) :
    Calls Tryd.prog 9 #[.pointer (some ⟨p, 0, none⟩), plV i s, .slice b lb cb] w fun e w' => e = .returned (.int .u32 (mayK lst I i s zb)) ∧ ((mayK lst I i s zb ≠ 0 ∧ Below w.heap.size w w') ∨ (mayK lst I i s zb = 0 ∧ ∃ lst', w'.heap[p]? = some (.cells #[.map (some m), .int .i64 (cg + 1)] 50 (0, 0)) ∧ IsM w' m lst' ∧ ItD w' lst' (putI I i s zb) ∧ Kp [p, m] w w')) := by
  by_cases hz : mayK lst I i s zb = 0
  · rcases hI i s with ⟨h1, h2⟩ | ⟨x, hx, nm, d, ld, cd, l, ll, cl, h, lh, ch, gr, v, lv, cv, zd, e, r1, r2, r3, r4, g1, g2, g3, g4, g5⟩
    · exact absurd (show missC lst i = 0 by rw [← hz]; unfold mayK; rw [h2]) (miss_ne _ _)
    · cases hr : (bits .and .u8 x.rt 2 != 0) with
      | false => exact absurd (show (100728834 : Int) = 0 by rw [← hz]; unfold mayK; rw [hx]; simp only; rw [hr]; rfl) (by decide)
      | true =>
        have hc : Ty.chkN x.t zb x.zl x.zh = 0 := by rw [← hz]; unfold mayK; rw [hx]; simp only; rw [hr]; rfl
        refine (write_at p m cg lst i s nm x.t x.rt d ld cd l ll cl h lh ch x.tg gr v lv cv b lb cb zb x.zl x.zh w hp hm e rb r2 r3 hT hr hc hlb hc0 hc1 hne).mono ?_
        rintro e' w' ⟨he, a', c', k1, k2, k3, k4⟩
        refine ⟨by rw [hz]; exact he, .inr ⟨hz, _, k2, k3, fun j r => ?_, k1⟩⟩
        rw [lookP_put]
        unfold putI
        by_cases hj : (j == i && r == s) = true
        · obtain ⟨q1, q2⟩ : j = i ∧ r = s := by simpa using hj
          rw [if_pos hj, if_pos hj, hx, q1, q2]
          exact .inr ⟨{ x with zv := zb }, rfl, nm, d, ld, cd, l, ll, cl, h, lh, ch, gr, a', lb, c', zd, rfl, r1.kpD hp hm k1, r2.kpD hp hm k1, r3.kpD hp hm k1, k4.sl, g1, g2, g3, hlb, fun hs => by rw [← chkN_size hc hs, rb.row.size]⟩
        · rw [if_neg hj, if_neg hj]
          rcases hI j r with h | ⟨x, hx, nm, d, ld, cd, l, ll, cl, h, lh, ch, gr, v, lv, cv, zd, e, r1, r2, r3, r4, g⟩
          · exact .inl h
          · exact .inr ⟨x, hx, nm, d, ld, cd, l, ll, cl, h, lh, ch, gr, v, lv, cv, zd, e, r1.kpD hp hm k1, r2.kpD hp hm k1, r3.kpD hp hm k1, r4.kpD hp hm k1, g⟩
  · exact (write_no _ i s b lb cb _ hz w fun W hb => may_dic p m cg lst I i s b lb cb zb W (blk11 hb hp) (hm.next hb) (hI.next hb) (rb.next hb) (tab_next hT hb)).mono fun e w' ⟨h1, h2⟩ => ⟨h1, .inl ⟨hz, h2⟩⟩
/-- Of a Map that is no gap, whether it may be: by the items. -/
def cfI (I : Int → Int → Option It) (out : Bool) (x : Mz) : Bool := gapB x.i x.s x.b && !out || !gapB x.i x.s x.b && match I x.i x.s with
  | none => false
  | some y => ((bits .and .u8 y.rt 4 != 0) && hasB y.t x.b) && !(bits .and .u8 y.rt (rgt out) == 0)
theorem cfD_cfI {W : World} {lst : Mp} {I : Int → Int → Option It} (h : ItD W lst I) (out : Bool) (x : Mz) : cfD lst out x = 0 ↔ cfI I out x = true := by
  unfold cfD cfI
  cases hg : gapB x.i x.s x.b with
  | true => cases out <;> simp
  | false =>
    rcases h x.i x.s with ⟨h1, h2⟩ | ⟨y, hy, nm, d, ld, cd, l, ll, cl, h, lh, ch, gr, v, lv, cv, zd, e, r⟩
    · rw [h1, h2]
      simp [miss_ne]
    · rw [e, hy]
      simp only [itR, itT, itC]
      simp [and_assoc]
theorem cfI_put (I : Int → Int → Option It) (i s : Int) (zb : List Int) (out : Bool) (x : Mz) : cfI (putI I i s zb) out x = cfI I out x := by
  unfold cfI putI
  by_cases hj : (x.i == i && x.s == s) = true
  · obtain ⟨q1, q2⟩ : x.i = i ∧ x.s = s := by simpa using hj
    rw [if_pos hj, q1, q2]
    cases I i s <;> rfl
  · rw [if_neg hj]
#print axioms write_dic
#print axioms cfD_cfI
#print axioms cfI_put
end Go.Proofs.YtpjmebaipnpegaaDoor
namespace Go.Proofs.YtpjmebaipnpegaaDoor
open Go.RowKit

/-- The items of a dictionary that was made of entries. -/
def itE : List Em → Int → Int → Option It
  | [], _, _ => none
  | e :: r, i, s => if (i == e.i && s == e.s) = true then some ⟨e.t, e.rt, e.tg, e.zl, e.zh, firstL e.t e.zd⟩ else itE r i s
theorem itE_rel (Q : Em → Value → Prop) : ∀ (es : List Em) (lst : Mp) (i s : Int), lst.length = es.length → (∀ (k : Nat) (e : Em), es[k]? = some e → ∃ v, lst[k]? = some (e.i, e.s, v) ∧ Q e v) → (lookP lst i s = none ∧ itE es i s = none) ∨ ∃ e ∈ es, e.i = i ∧ e.s = s ∧ itE es i s = some ⟨e.t, e.rt, e.tg, e.zl, e.zh, firstL e.t e.zd⟩ ∧ ∃ u, lookP lst i s = some u ∧ Q e u
  | [], lst, i, s, hl, _ => by
    have : lst = [] := List.eq_nil_of_length_eq_zero hl
    subst this
    exact .inl ⟨rfl, rfl⟩
  | e :: es, [], i, s, hl, _ => by simp at hl
  | e :: es, x :: lst, i, s, hl, hr => by
    obtain ⟨v, hx, hq⟩ := hr 0 e rfl
    simp at hx
    subst hx
    by_cases hc : (i == e.i && s == e.s) = true
    · obtain ⟨h1, h2⟩ : i = e.i ∧ s = e.s := by simpa using hc
      refine .inr ⟨e, List.mem_cons_self, h1.symm, h2.symm, by simp only [itE]; rw [if_pos hc], v, by simp only [lookP]; rw [if_pos hc], hq⟩
    · rcases itE_rel Q es lst i s (by simpa using hl) (fun k e' he' => hr (k + 1) e' he') with ⟨h1, h2⟩ | ⟨e', he, h1, h2, h3, u, h4, h5⟩
      · exact .inl ⟨by simp only [lookP]; rw [if_neg hc]; exact h1, by simp only [itE]; rw [if_neg hc]; exact h2⟩
      · exact .inr ⟨e', List.mem_cons_of_mem _ he, h1, h2, by simp only [itE]; rw [if_neg hc]; exact h3, u, by simp only [lookP]; rw [if_neg hc]; exact h4, h5⟩
/-- What New made, place by place. -/
theorem built_dic {w W : World} {lo : Nat} {es : List Em} {lst : Mp} (h : Built W lo es lst) (hc : newC es = 0) (hin : ∀ e ∈ es, EmIn w e) : ItD W lst (itE es) := fun i s => by
  rcases itE_rel (fun e u => ∃ a1 c1 a2 c2 a3 c3 v lv cv, u = .agg (itC e.i e.s e.nm e.t e.rt a1 e.ld c1 a2 e.ll c2 a3 e.lh c3 e.tg e.gr v lv cv) ∧ Kept W lo a1 e.ld c1 e.zd ∧ Kept W lo a2 e.ll c2 e.zl ∧ Kept W lo a3 e.lh c3 e.zh ∧ Kept W lo v lv cv (firstL e.t e.zd)) es lst i s h.1 (fun k e he => by
      obtain ⟨a1, c1, a2, c2, a3, c3, v, lv, cv, g, k1, k2, k3, k4⟩ := h.2 k e he
      exact ⟨_, g, a1, c1, a2, c2, a3, c3, v, lv, cv, rfl, k1, k2, k3, k4⟩) with h0 | ⟨e, he, rfl, rfl, h3, u, h4, a1, c1, a2, c2, a3, c3, v, lv, cv, rfl, k1, k2, k3, k4⟩
  · exact .inl h0
  · obtain ⟨rd, rl, rh, b1, b2, b3⟩ := hin e he
    have hm := (mayB_yes ((newC_zero hc).2 e he)).2.2.2.2.2.2
    have hz : e.zd.length ≤ 16777216 := by rw [rd.row.size]; exact b1
    refine .inr ⟨_, h3, e.nm, a1, e.ld, c1, a2, e.ll, c2, a3, e.lh, c3, e.gr, v, lv, cv, e.zd, h4, k1.1, k2.1, k3.1, k4.1, b1, b2, b3, NF k4.1 hz, fun hs => ?_⟩
    show (lv : Int) = Ty.Pl.sizeN e.t
    rw [← chkN_size hm hs, ← k4.1.row.size]
theorem itE_mem : ∀ (es : List Em) (i s : Int) (x : It), itE es i s = some x → ∃ e ∈ es, x = ⟨e.t, e.rt, e.tg, e.zl, e.zh, firstL e.t e.zd⟩
  | [], _, _, _, h => by cases h
  | e :: es, i, s, x, h => by
    simp only [itE] at h
    split at h
    · cases h
      exact ⟨e, List.mem_cons_self, rfl⟩
    · obtain ⟨e', he, hx⟩ := itE_mem es i s x h
      exact ⟨e', List.mem_cons_of_mem _ he, hx⟩
/-- A value at first is one that may be. -/
theorem itE_may {es : List Em} (hc : newC es = 0) {i s : Int} {x : It} (h : itE es i s = some x) : Ty.chkN x.t x.zv x.zl x.zh = 0 := by
  obtain ⟨e, he, rfl⟩ := itE_mem es i s x h
  exact (mayB_yes ((newC_zero hc).2 e he)).2.2.2.2.2.2
/-- The same but for the values. -/
def SameI (I J : Int → Int → Option It) : Prop := ∀ i s, (I i s = none ∧ J i s = none) ∨ ∃ x y, I i s = some x ∧ J i s = some y ∧ y.t = x.t ∧ y.rt = x.rt ∧ y.zl = x.zl ∧ y.zh = x.zh
theorem SameI.refl (I : Int → Int → Option It) : SameI I I := fun i s => by
  cases h : I i s with
  | none => exact .inl ⟨rfl, rfl⟩
  | some x => exact .inr ⟨x, x, rfl, rfl, rfl, rfl, rfl, rfl⟩
theorem SameI.put {I J : Int → Int → Option It} (h : SameI I J) (i s : Int) (zb : List Int) : SameI I (putI J i s zb) := fun j r => by
  unfold putI
  by_cases hj : (j == i && r == s) = true
  · obtain ⟨q1, q2⟩ : j = i ∧ r = s := by simpa using hj
    rw [if_pos hj, q1, q2]
    rcases h i s with ⟨h1, h2⟩ | ⟨x, y, h1, h2, h3⟩
    · exact .inl ⟨h1, by rw [h2]; rfl⟩
    · exact .inr ⟨x, { y with zv := zb }, h1, by rw [h2]; rfl, h3⟩
  · rw [if_neg hj]
    exact h j r
theorem SameI.cf {I J : Int → Int → Option It} (h : SameI I J) (out : Bool) (x : Mz) : cfI J out x = cfI I out x := by
  unfold cfI
  rcases h x.i x.s with ⟨h1, h2⟩ | ⟨a, b, h1, h2, h3, h4, _⟩
  · rw [h1, h2]
  · rw [h1, h2]
    simp only
    rw [h3, h4]
theorem chkZ_same (cf cf' : Mz → Int) : ∀ (ms : List Mz) (n : Int), (∀ x, cf x = 0 → cf' x = 0) → chkZ cf ms n = 0 → chkZ cf' ms n = 0
  | [], _, _, _ => rfl
  | x :: l, n, hc, h => by
    simp only [chkZ] at h ⊢
    split at h
    · rename_i h1; exact absurd h h1
    · rename_i h1
      split at h
      · exact absurd h (by decide)
      · rename_i h2
        rw [if_neg (by simp only [ne_eq, Decidable.not_not] at h1 ⊢; exact hc x h1), if_neg h2]
        exact chkZ_same cf cf' l _ hc h
theorem chkC_same {W W' : World} {lst lst' : Mp} {I J : Int → Int → Option It} (h : ItD W lst I) (h' : ItD W' lst' J) (hs : SameI I J) {out : Bool} {ms : List Mz} (hc : chkC lst out ms = 0) : chkC lst' out ms = 0 := by
  unfold chkC at hc ⊢
  split at hc
  · exact absurd hc (by decide)
  · rename_i h1
    rw [if_neg h1]
    exact chkZ_same _ _ ms 0 (fun x hx => (cfD_cfI h' out x).2 (by rw [hs.cf]; exact (cfD_cfI h out x).1 hx)) hc
/-- A dictionary beside another one that is written to. -/
theorem ItD.kpD {w w' : World} {lst : Mp} {I : Int → Int → Option It} (h : ItD w lst I) {p m : Nat} {cg : Int} {l2 : Mp} (hp : w.heap[p]? = some (.cells #[.map (some m), .int .i64 cg] 50 (0, 0))) (hm : IsM w m l2) (hk : Kp [p, m] w w') : ItD w' lst I := fun j r => by
  rcases h j r with h | ⟨x, hx, nm, d, ld, cd, l, ll, cl, h, lh, ch, gr, v, lv, cv, zd, e, r1, r2, r3, r4, g⟩
  · exact .inl h
  · exact .inr ⟨x, hx, nm, d, ld, cd, l, ll, cl, h, lh, ch, gr, v, lv, cv, zd, e, r1.kpD hp hm hk, r2.kpD hp hm hk, r3.kpD hp hm hk, r4.kpD hp hm hk, g⟩
theorem tab_kpD {w w' : World} (h : Ty.Tab64 w) {p m : Nat} {cg : Int} {lst : Mp} (hp : w.heap[p]? = some (.cells #[.map (some m), .int .i64 cg] 50 (0, 0))) (hm : IsM w m lst) (hk : Kp [p, m] w w') : Ty.Tab64 w' := fun j hj => by
  have c := h j hj
  have c0 := h 0 (by decide)
  have hne : 1 ∉ [p, m] := fun hmem => by
    simp at hmem
    rcases hmem with rfl | rfl
    · rw [cell_of_row _ _ _ _ _ _ hp] at c0
      simp at c0
    · obtain ⟨es, ck, hmm, _⟩ := hm
      simp [World.cell?, hmm] at c0
  rw [World.cell?_of_block (w := w) (hk.block _ (block_lt_of_cell c) hne)]
  exact c
/-- May a value be written at a place? -/
def mayI (I : Int → Int → Option It) (i s : Int) (zb : List Int) : Prop := ∃ x, I i s = some x ∧ (bits .and .u8 x.rt 2 != 0) = true ∧ Ty.chkN x.t zb x.zl x.zh = 0
theorem mayI.k {I : Int → Int → Option It} {i s : Int} {zb : List Int} (h : mayI I i s zb) (lst : Mp) : mayK lst I i s zb = 0 := by
  obtain ⟨x, h1, h2, h3⟩ := h
  unfold mayK
  rw [h1]
  simp only
  rw [if_pos h2, h3]
theorem mayK_I {I : Int → Int → Option It} {i s : Int} {zb : List Int} {lst : Mp} (h : mayK lst I i s zb = 0) : mayI I i s zb := by
  unfold mayK at h
  cases hx : I i s with
  | none => rw [hx] at h; exact absurd h (miss_ne _ _)
  | some x =>
    rw [hx] at h
    simp only at h
    split at h
    · rename_i h2; exact ⟨x, hx, h2, h⟩
    · exact absurd h (by decide)
theorem SameI.may {I J : Int → Int → Option It} (h : SameI I J) {i s : Int} {zb : List Int} (hm : mayI I i s zb) : mayI J i s zb := by
  obtain ⟨x, h1, h2, h3⟩ := hm
  rcases h i s with ⟨h4, _⟩ | ⟨a, b, h4, h5, h6, h7, h8, h9⟩
  · rw [h1] at h4; cases h4
  · rw [h1] at h4
    cases h4
    exact ⟨b, h5, by rw [h7]; exact h2, by rw [h6, h8, h9]; exact h3⟩
/-- May's code of a Map's place. -/
def mcI (lst : Mp) (I : Int → Int → Option It) : Mq → List Int → Int := fun x zb => mayK lst I x.i x.s zb
theorem mayC_I (p m : Nat) (cg : Int) (lst : Mp) (I : Int → Int → Option It) (w : World) (hp : w.heap[p]? = some (.cells #[.map (some m), .int .i64 cg] 50 (0, 0))) (hm : IsM w m lst) (hI : ItD w lst I) (hT : Ty.Tab64 w) : MayC p lst w (mcI lst I) := fun x h1 h2 W hW zb g hn hO hh => by
  have hb := cfD_bd h1
  have h64 : (x.q.b + 7) / 8 ≤ 8 := by show (x.b.toNat + 7) / 8 ≤ 8; omega
  exact may_dic p m cg lst I x.i x.s (some ⟨g, 0, none⟩) _ _ zb W (blk11 hW hp) (hm.next hW) (hI.next hW) ⟨row_own hn hO hh, Nat.le_refl _, by unfold maxLen; omega⟩ (tab_next hT hW)
/-- Values put at their places, one behind the other. -/
def putA (I : Int → Int → Option It) (l : List (Int × Int × List Int)) : Int → Int → Option It := l.foldl (fun J r => putI J r.1 r.2.1 r.2.2) I
theorem putA_app (I : Int → Int → Option It) (l : List (Int × Int × List Int)) (r : Int × Int × List Int) : putA I (l ++ [r]) = putI (putA I l) r.1 r.2.1 r.2.2 := by
  unfold putA
  rw [List.foldl_append]
  rfl
theorem SameI.puts {I J : Int → Int → Option It} (h : SameI I J) : ∀ (l : List (Int × Int × List Int)), SameI I (putA J l) := fun l => by
  unfold putA
  induction l generalizing J with
  | nil => exact h
  | cons r l ih => exact ih (h.put _ _ _)
/-- What stands at a place behind them. -/
theorem putA_val (I : Int → Int → Option It) (i s : Int) (v : List Int) (hs : I i s ≠ none) : ∀ (l : List (Int × Int × List Int)) (J : Int → Int → Option It), SameI I J → (∀ r ∈ l, r.1 = i → r.2.1 = s → r.2.2 = v) → (valI J i s = v ∨ ∃ r ∈ l, r.1 = i ∧ r.2.1 = s) → valI (putA J l) i s = v
  | [], J, _, _, h => by
    rcases h with h | ⟨r, hr, _⟩
    · exact h
    · cases hr
  | r :: l, J, hJ, hv, h => by
    show valI (putA (putI J r.1 r.2.1 r.2.2) l) i s = v
    refine putA_val I i s v hs l _ (hJ.put _ _ _) (fun x hx => hv x (List.mem_cons_of_mem _ hx)) ?_
    by_cases hc : (i == r.1 && s == r.2.1) = true
    · obtain ⟨q1, q2⟩ : i = r.1 ∧ s = r.2.1 := by simpa using hc
      refine .inl ?_
      unfold valI putI
      rw [if_pos hc, ← q1, ← q2]
      rcases hJ i s with ⟨h1, _⟩ | ⟨x, y, _, h2, _⟩
      · exact absurd h1 hs
      · rw [h2]
        exact hv r List.mem_cons_self q1.symm q2.symm
    · rcases h with h | ⟨x, hx, h1, h2⟩
      · refine .inl ?_
        unfold valI putI
        rw [if_neg hc]
        exact h
      · rcases List.mem_cons.1 hx with rfl | hx
        · exact absurd (by rw [h1, h2]; simp) hc
        · exact .inr ⟨x, hx, h1, h2⟩
#print axioms built_dic
#print axioms chkC_same
#print axioms mayC_I
#print axioms putA_val
end Go.Proofs.YtpjmebaipnpegaaDoor
