/-
  What the examples of TypesKnown tell: decided.
  Rows of said, in memory.
  A row of bytes as it is written; floats.
  checks: the examples of Check, Compare, and what is no type.
-/
import Derived.Test.YtkfmmpolcjbnbaaDoorRdV
import Derived.Test.YtkfmmpolcjbnbaaDoorTxt
import Derived.Test.YtkfmmpolcjbnbaaDoorChkW
import Derived.Test.YtkfmmpolcjbnbaaDoorCompW
import Derived.Test.YtkfmmpolcjbnbaaDoorLent
import Derived.Deep.OwnRows
import Derived.Lib.SmallJoins
namespace Go.Proofs.YtkfmmpolcjbnbaaDoor
open Pl Go.RowKit

abbrev Ex := Int × List Int × List UInt8
def exA : List Ex := [(1, [1], [116, 114, 117, 101]), (2, [128], [45, 49, 50, 56]), (16, [255, 255, 127], [56, 51, 56, 56, 54, 48, 55]), (21, [0, 0, 0, 0, 0, 0, 0, 128], [45, 57, 50, 50, 51, 51, 55, 50, 48, 51, 54, 56, 53, 52, 55, 55, 53, 56, 48, 56]), (27, [255, 255, 255, 255, 255, 255, 255, 255], [49, 56, 52, 52, 54, 55, 52, 52, 48, 55, 51, 55, 48, 57, 53, 53, 49, 54, 49, 53]), (9, [97, 34, 10, 92], [34, 97, 92, 34, 92, 120, 48, 97, 92, 92, 34]), (9, [], [34, 34]), (10, [0, 171], [48, 48, 97, 98]), (15, [], []), (12, [1, 0, 0, 0, 2, 0], [50, 58, 49]), (13, [255, 91, 38, 5, 255, 255], [54, 53, 53, 51, 53, 58, 56, 54, 51, 57, 57, 57, 57, 57])]
def exF : List Ex := [(8, [0, 0, 192, 63], [51, 112, 45, 49]), (8, [0, 0, 0, 128], [45, 48, 112, 48]), (8, [1, 0, 192, 127], [110, 97, 110, 58, 55, 102, 99, 48, 48, 48, 48, 49]), (8, [0, 0, 128, 127], [105, 110, 102]), (8, [0, 0, 128, 255], [45, 105, 110, 102]), (8, [1, 0, 0, 0], [49, 112, 45, 49, 52, 57]), (8, [255, 255, 127, 127], [49, 54, 55, 55, 55, 50, 49, 53, 112, 49, 48, 52]), (8, [0, 0, 128, 0], [49, 112, 45, 49, 50, 54]), (8, [255, 255, 127, 0], [56, 51, 56, 56, 54, 48, 55, 112, 45, 49, 52, 57]), (17, [0, 0, 0, 0, 0, 0, 240, 63], [49, 112, 48]), (17, [1, 0, 0, 0, 0, 0, 0, 128], [45, 49, 112, 45, 49, 48, 55, 52]), (17, [255, 255, 255, 255, 255, 255, 239, 127], [57, 48, 48, 55, 49, 57, 57, 50, 53, 52, 55, 52, 48, 57, 57, 49, 112, 57, 55, 49]), (17, [1, 0, 0, 0, 0, 0, 240, 255], [110, 97, 110, 58, 102, 102, 102, 48, 48, 48, 48, 48, 48, 48, 48, 48, 48, 48, 48, 49]), (17, [0, 0, 0, 0, 0, 0, 240, 255], [45, 105, 110, 102])]
def exM : List Ex := [(6, [31, 0], [48, 120, 49, 70]), (27, [255, 255, 255, 255, 255, 255, 255, 255], [48, 120, 102, 102, 102, 102, 102, 102, 102, 102, 102, 102, 102, 102, 102, 102, 102, 102]), (8, [0, 0, 192, 63], [54, 112, 45, 50]), (8, [0, 0, 0, 0], [48, 112, 57, 57, 57, 57]), (17, [0, 0, 0, 0, 0, 0, 240, 67], [49, 56, 52, 52, 54, 55, 52, 52, 48, 55, 51, 55, 48, 57, 53, 53, 49, 54, 49, 53, 112, 48]), (8, [1, 0, 0, 0], [49, 48, 50, 52, 112, 45, 49, 53, 57]), (10, [171], [97, 66]), (9, [97, 34, 98], [97, 34, 98]), (9, [], [])]
def exW : List Ex := [(1, [], [49]), (1, [], [84, 114, 117, 101]), (5, [], [50, 53, 54]), (5, [], [48, 120, 49, 48, 48]), (5, [], [48, 120]), (5, [], [48, 49]), (5, [], [45, 48]), (5, [], [43, 49]), (5, [], []), (2, [], [49, 50, 56]), (2, [], [45, 49, 50, 57]), (2, [], [45, 48]), (2, [], [48, 120, 49]), (27, [], [49, 56, 52, 52, 54, 55, 52, 52, 48, 55, 51, 55, 48, 57, 53, 53, 49, 54, 49, 54]), (27, [], [48, 120, 48, 48, 48, 48, 48, 48, 48, 48, 48, 48, 48, 48, 48, 48, 48, 48, 49]), (8, [], [49, 112, 45, 49, 53, 48]), (8, [], [49, 112, 49, 50, 56]), (8, [], [49, 54, 55, 55, 55, 50, 49, 55, 112, 48]), (8, [], [49]), (8, [], [112, 48]), (8, [], [49, 112]), (8, [], [49, 112, 45, 48]), (8, [], [49, 112, 48, 48]), (8, [], [48, 112, 49, 48, 48, 48, 48]), (8, [], [49, 46, 53]), (8, [], [78, 97, 78]), (8, [], [110, 97, 110, 58, 55, 102, 56, 48, 48, 48, 48, 48]), (8, [], [110, 97, 110, 58, 55, 70, 67, 48, 48, 48, 48, 48]), (8, [], [110, 97, 110, 58, 55, 102, 99, 48, 48, 48, 48]), (8, [], [45, 45, 105, 110, 102]), (17, [], [49, 56, 52, 52, 54, 55, 52, 52, 48, 55, 51, 55, 48, 57, 53, 53, 49, 54, 49, 54, 112, 48]), (12, [], [49]), (12, [], [49, 58, 56, 54, 52, 48, 48, 48, 48, 48]), (12, [], [54, 53, 53, 51, 54, 58, 48]), (12, [], [49, 58, 50, 58, 51]), (10, [], [48]), (10, [], [48, 103]), (9, [], [34]), (9, [], [34, 97]), (9, [], [34, 97, 34, 98, 34]), (9, [], [34, 92, 120, 52, 49, 34]), (9, [], [34, 92, 120, 48, 65, 34]), (9, [], [34, 92, 110, 34]), (9, [], [34, 92, 34]), (9, [], [34, 0, 34])]
def Ex.both (x : Ex) : Bool := decide (kindN x.1 ≠ 0 ∧ txS x.1 x.2.1 = x.2.2 ∧ txE x.1 x.2.1 = 0 ∧ valN x.1 x.2.2 = some x.2.1 ∧ x.2.2.length ≤ 1000000)
def Ex.reads (x : Ex) : Bool := decide (kindN x.1 ≠ 0 ∧ valN x.1 x.2.2 = some x.2.1 ∧ x.2.2.length ≤ 1000000)
def Ex.not (x : Ex) : Bool := decide (kindN x.1 ≠ 0 ∧ valN x.1 x.2.2 = none ∧ x.2.2.length ≤ 1000000)
theorem exA_ok : exA.all Ex.both = true := by decide +kernel
theorem exF_ok : exF.all Ex.both = true := by decide +kernel
theorem exM_ok : (exM.take 4).all Ex.reads = true ∧ (exM.drop 5).all Ex.reads = true ∧ ((exM.drop 4).take 1).all Ex.not = true := by decide +kernel
theorem exW_ok : exW.all Ex.not = true := by decide +kernel
#print axioms exA_ok
#print axioms exF_ok
#print axioms exM_ok
#print axioms exW_ok
end Go.Proofs.YtkfmmpolcjbnbaaDoor
namespace Go.Proofs.YtkfmmpolcjbnbaaDoor
open Pl Go.RowKit

/-- A row of said: a type, where its bytes lie, its bytes, its text. -/
structure Sd where
  t : Int
  a : Option Addr
  len : Nat
  cap : Nat
  z : List Int
  s : List UInt8
def Sd.L (d : Sd) : List Value := [.int .u8 d.t, .slice d.a d.len d.cap, .string (str d.s)]
abbrev Sd.x (d : Sd) : Ex := (d.t, d.z, d.s)
structure Sd.In (w : World) (d : Sd) : Prop where
  row : Row w d.a d.len d.z
  le : d.len ≤ d.cap
  max : d.cap ≤ maxLen
theorem Sd.In.next {w w' : World} {d : Sd} (h : d.In w) (hb : Below w.heap.size w w') : d.In w' := ⟨h.row.next hb, h.le, h.max⟩
def fl3 (l : List Sd) : List Value := l.flatMap Sd.L
theorem fl3_len (l : List Sd) : (fl3 l).length = l.length * 3 := by
  unfold fl3
  induction l with
  | nil => rfl
  | cons x l ih => rw [List.flatMap_cons, List.length_append, ih, List.length_cons]; simp [Sd.L]; omega
theorem fl3_app (l m : List Sd) : fl3 (l ++ m) = fl3 l ++ fl3 m := by unfold fl3; rw [List.flatMap_append]
theorem fl3_at (l : List Sd) (i : Nat) (d : Sd) (h : l[i]? = some d) : (fl3 l)[i * 3]? = some (.int .u8 d.t) ∧ (fl3 l)[i * 3 + 1]? = some (.slice d.a d.len d.cap) ∧ (fl3 l)[i * 3 + 2]? = some (.string (str d.s)) := by
  obtain ⟨hi, he⟩ := List.getElem?_eq_some_iff.1 h
  have e : l = l.take i ++ (d :: l.drop (i + 1)) := by rw [← he, List.getElem_cons_drop, List.take_append_drop]
  have e2 : fl3 l = fl3 (l.take i) ++ (d.L ++ fl3 (l.drop (i + 1))) := by
    conv => lhs; rw [e]
    rw [fl3_app]
    rfl
  have hl : (fl3 (l.take i)).length = i * 3 := by rw [fl3_len, List.length_take]; congr 1; omega
  rw [e2]
  refine ⟨?_, ?_, ?_⟩ <;> rw [List.getElem?_append_right (by omega), hl]
  · rw [Nat.sub_self]; rfl
  · rw [show i * 3 + 1 - i * 3 = 1 from by omega]; rfl
  · rw [show i * 3 + 2 - i * 3 = 2 from by omega]; rfl
/-- Rows of said at a block. -/
structure IsS (w : World) (b : Nat) (l : List Sd) : Prop where
  c : ∀ j u, (fl3 l)[j]? = some u → w.cell? ⟨b, j, none⟩ = some u
  i : ∀ d ∈ l, d.In w
  lt : b < w.heap.size
theorem IsS.next {w w' : World} {b : Nat} {l : List Sd} (h : IsS w b l) (hb : Below w.heap.size w w') : IsS w' b l :=
  ⟨fun j u hj => (World.cell?_of_block (hb.block b h.lt)).trans (h.c j u hj), fun d hd => (h.i d hd).next hb, Nat.lt_of_lt_of_le h.lt hb.size⟩
theorem IsS.at_ {w : World} {b : Nat} {l : List Sd} (h : IsS w b l) (i : Nat) (d : Sd) (hd : l[i]? = some d) : w.cell? ⟨b, i * 3, none⟩ = some (.int .u8 d.t) ∧ w.cell? ⟨b, i * 3 + 1, none⟩ = some (.slice d.a d.len d.cap) ∧ w.cell? ⟨b, i * 3 + 2, none⟩ = some (.string (str d.s)) ∧ d.In w := by
  obtain ⟨h0, h1, h2⟩ := fl3_at l i d hd
  exact ⟨h.c _ _ h0, h.c _ _ h1, h.c _ _ h2, h.i d (List.mem_of_getElem? hd)⟩
#print axioms IsS.at_
end Go.Proofs.YtkfmmpolcjbnbaaDoor
namespace Go.Proofs.YtkfmmpolcjbnbaaDoor
open Pl Go.RowKit

theorem Row.al {w : World} {a : Option Addr} {len : Nat} {zs : List Int} {o : Obj} (h : Row w a len zs) : Row (w.alloc o) a len zs := h.next (Below.al (Below.refl _ _) _)
theorem rl {w : World} {C : Array Value} {T : TypeId} {fr : Nat × Nat} (zs : List Int) (n len : Nat) (hs : n = w.heap.size) (hl : zs.length = len) (ho : ∀ n ∈ zs, 0 ≤ n ∧ n < 256) (hC : C = (zs.map (Value.int .u8)).toArray) : Row (w.alloc (.cells C T fr)) (some ⟨n, 0, none⟩) len zs where
  size := hl
  oct := ho
  at_ := fun _ => ⟨_, 0, rfl, fun i hi => by
    subst hs
    rw [Nat.zero_add, World.cell?_alloc_mark, hC]
    simp [List.getD_eq_getElem?_getD, hl, hi]⟩
theorem sdIn {w : World} {t : Int} {a : Option Addr} {len : Nat} {z : List Int} {s : List UInt8} (r : Row w a len z) (h : len ≤ 16) : (⟨t, a, len, len, z, s⟩ : Sd).In w := ⟨r, Nat.le_refl _, Nat.le_trans h (by decide)⟩
theorem allIn {w : World} : ∀ (l : List Sd), l.foldr (fun d p => d.In w ∧ p) True → ∀ d ∈ l, d.In w
  | [], _ => fun d hd => by simp at hd
  | x :: l, h => fun d hd => by
    rcases List.mem_cons.1 hd with rfl | hd
    · exact h.1
    · exact allIn l h.2 d hd
theorem isS_lit {W : World} {C : Array Value} {T : TypeId} {n : Nat} (l : List Sd) (hn : n = W.heap.size) (hC : C = (fl3 l).toArray) (hi : l.foldr (fun d p => d.In W ∧ p) True) : IsS (W.alloc (.cells C T)) n l := by
  subst hn
  refine ⟨fun j u hj => ?_, fun d hd => (allIn l hi d hd).next (Below.al (Below.refl _ _) _), by simp⟩
  rw [World.cell?_alloc_new, hC]
  simpa using hj

set_option linter.unusedSimpArgs false in
set_option maxHeartbeats 8000000 in
set_option maxRecDepth 100000 in
theorem floats_any (w : World) : Calls Tryd.prog 9 #[] w fun e w' => ∃ b l, e = .returned (.slice (some ⟨b, 0, none⟩) 14 14) ∧ IsS w' b l ∧ l.map Sd.x = exF ∧ (∀ d ∈ l, ∀ c off, d.a = some ⟨c, off, none⟩ → w.heap.size ≤ c) ∧ Below w.heap.size w w' := by
  go_enter Tryd.func9, Tryd.ntmps9
  go_wp2_with fail
  go_ret
  refine ⟨_, [⟨8, some ⟨w.heap.size, 0, none⟩, 4, 4, [0, 0, 192, 63], [51, 112, 45, 49]⟩, ⟨8, some ⟨w.heap.size + 1, 0, none⟩, 4, 4, [0, 0, 0, 128], [45, 48, 112, 48]⟩, ⟨8, some ⟨w.heap.size + 1 + 1, 0, none⟩, 4, 4, [1, 0, 192, 127], [110, 97, 110, 58, 55, 102, 99, 48, 48, 48, 48, 49]⟩, ⟨8, some ⟨w.heap.size + 1 + 1 + 1, 0, none⟩, 4, 4, [0, 0, 128, 127], [105, 110, 102]⟩, ⟨8, some ⟨w.heap.size + 1 + 1 + 1 + 1, 0, none⟩, 4, 4, [0, 0, 128, 255], [45, 105, 110, 102]⟩, ⟨8, some ⟨w.heap.size + 1 + 1 + 1 + 1 + 1, 0, none⟩, 4, 4, [1, 0, 0, 0], [49, 112, 45, 49, 52, 57]⟩, ⟨8, some ⟨w.heap.size + 1 + 1 + 1 + 1 + 1 + 1, 0, none⟩, 4, 4, [255, 255, 127, 127], [49, 54, 55, 55, 55, 50, 49, 53, 112, 49, 48, 52]⟩, ⟨8, some ⟨w.heap.size + 1 + 1 + 1 + 1 + 1 + 1 + 1, 0, none⟩, 4, 4, [0, 0, 128, 0], [49, 112, 45, 49, 50, 54]⟩, ⟨8, some ⟨w.heap.size + 1 + 1 + 1 + 1 + 1 + 1 + 1 + 1, 0, none⟩, 4, 4, [255, 255, 127, 0], [56, 51, 56, 56, 54, 48, 55, 112, 45, 49, 52, 57]⟩, ⟨17, some ⟨w.heap.size + 1 + 1 + 1 + 1 + 1 + 1 + 1 + 1 + 1, 0, none⟩, 8, 8, [0, 0, 0, 0, 0, 0, 240, 63], [49, 112, 48]⟩, ⟨17, some ⟨w.heap.size + 1 + 1 + 1 + 1 + 1 + 1 + 1 + 1 + 1 + 1, 0, none⟩, 8, 8, [1, 0, 0, 0, 0, 0, 0, 128], [45, 49, 112, 45, 49, 48, 55, 52]⟩, ⟨17, some ⟨w.heap.size + 1 + 1 + 1 + 1 + 1 + 1 + 1 + 1 + 1 + 1 + 1, 0, none⟩, 8, 8, [255, 255, 255, 255, 255, 255, 239, 127], [57, 48, 48, 55, 49, 57, 57, 50, 53, 52, 55, 52, 48, 57, 57, 49, 112, 57, 55, 49]⟩, ⟨17, some ⟨w.heap.size + 1 + 1 + 1 + 1 + 1 + 1 + 1 + 1 + 1 + 1 + 1 + 1, 0, none⟩, 8, 8, [1, 0, 0, 0, 0, 0, 240, 255], [110, 97, 110, 58, 102, 102, 102, 48, 48, 48, 48, 48, 48, 48, 48, 48, 48, 48, 48, 49]⟩, ⟨17, some ⟨w.heap.size + 1 + 1 + 1 + 1 + 1 + 1 + 1 + 1 + 1 + 1 + 1 + 1 + 1, 0, none⟩, 8, 8, [0, 0, 0, 0, 0, 0, 240, 255], [45, 105, 110, 102]⟩], rfl, isS_lit _ (by simp) rfl ⟨sdIn (rl [0, 0, 192, 63] _ _ (by simp) rfl (by decide) rfl).al.al.al.al.al.al.al.al.al.al.al.al.al (by decide), sdIn (rl [0, 0, 0, 128] _ _ (by simp) rfl (by decide) rfl).al.al.al.al.al.al.al.al.al.al.al.al (by decide), sdIn (rl [1, 0, 192, 127] _ _ (by simp) rfl (by decide) rfl).al.al.al.al.al.al.al.al.al.al.al (by decide), sdIn (rl [0, 0, 128, 127] _ _ (by simp) rfl (by decide) rfl).al.al.al.al.al.al.al.al.al.al (by decide), sdIn (rl [0, 0, 128, 255] _ _ (by simp) rfl (by decide) rfl).al.al.al.al.al.al.al.al.al (by decide), sdIn (rl [1, 0, 0, 0] _ _ (by simp) rfl (by decide) rfl).al.al.al.al.al.al.al.al (by decide), sdIn (rl [255, 255, 127, 127] _ _ (by simp) rfl (by decide) rfl).al.al.al.al.al.al.al (by decide), sdIn (rl [0, 0, 128, 0] _ _ (by simp) rfl (by decide) rfl).al.al.al.al.al.al (by decide), sdIn (rl [255, 255, 127, 0] _ _ (by simp) rfl (by decide) rfl).al.al.al.al.al (by decide), sdIn (rl [0, 0, 0, 0, 0, 0, 240, 63] _ _ (by simp) rfl (by decide) rfl).al.al.al.al (by decide), sdIn (rl [1, 0, 0, 0, 0, 0, 0, 128] _ _ (by simp) rfl (by decide) rfl).al.al.al (by decide), sdIn (rl [255, 255, 255, 255, 255, 255, 239, 127] _ _ (by simp) rfl (by decide) rfl).al.al (by decide), sdIn (rl [1, 0, 0, 0, 0, 0, 240, 255] _ _ (by simp) rfl (by decide) rfl).al (by decide), sdIn (rl [0, 0, 0, 0, 0, 0, 240, 255] _ _ (by simp) rfl (by decide) rfl) (by decide), trivial⟩, rfl, ?_, ?_⟩
  · intro d hd c off he
    simp only [List.mem_cons, List.not_mem_nil, or_false] at hd
    rcases hd with rfl | rfl | rfl | rfl | rfl | rfl | rfl | rfl | rfl | rfl | rfl | rfl | rfl | rfl <;> (simp at he; omega)
  repeat (refine Below.al ?_ _)
  exact Below.refl _ _
#print axioms floats_any
end Go.Proofs.YtkfmmpolcjbnbaaDoor
namespace Go.Proofs.YtkfmmpolcjbnbaaDoor
open Pl Go.RowKit

theorem ck {t E : Int} {a lo hi : Option Addr} {la ca ll cl lh ch : Nat} {za zl zh : List Int} {w : World} (ra : Row w a la za) (rl : Row w lo ll zl) (rh : Row w hi lh zh) (hT : Tabs w) (he : chkN t za zl zh = E)
    (hb : la ≤ ca ∧ ca ≤ maxLen ∧ ll ≤ cl ∧ cl ≤ maxLen ∧ lh ≤ ch ∧ ch ≤ maxLen) :
    Calls Tryd.prog 7 #[.int .u8 t, .slice a la ca, .slice lo ll cl, .slice hi lh ch] w fun e w' => e = .returned (.int .u32 E) ∧ Below w.heap.size w w' := by
  subst he
  exact check_any t a lo hi la ca ll cl lh ch za zl zh w ra rl rh hT.t64 hb.1 hb.2.1 hb.2.2.1 hb.2.2.2.1 hb.2.2.2.2.1 hb.2.2.2.2.2
theorem cm {t R : Int} {O : Bool} {a b : Option Addr} {la ca lb cb : Nat} {za zb : List Int} {w : World} (ra : Row w a la za) (rb : Row w b lb zb) (hT : Tabs w) (hR : compR t za zb = R) (hO : compB t za zb = O)
    (hb : la ≤ ca ∧ ca ≤ maxLen ∧ lb ≤ cb ∧ cb ≤ maxLen) :
    Calls Tryd.prog 11 #[.int .u8 t, .slice a la ca, .slice b lb cb] w fun e w' => e = .returned (.tuple #[.int .i64 R, .bool O]) ∧ Below w.heap.size w w' := by
  subst hR hO
  exact compare_any t a b la ca lb cb za zb w ra rb hT.t64 hb.1 hb.2.1 hb.2.2.1 hb.2.2.2
theorem tx {t E : Int} {a : Option Addr} {la ca : Nat} {za : List Int} {w : World} (ra : Row w a la za) (hT : Tabs w) (he : txE t za = E ∧ txS t za = []) (hb : la ≤ ca ∧ ca ≤ maxLen) :
    Calls Tryd.prog 6 #[.int .u8 t, .slice a la ca] w fun e w' => e = .returned (.tuple #[.string (str []), .int .i64 E]) ∧ Below w.heap.size w w' := by
  have := text_any t a la ca za w ra hT hb.1 hb.2
  rw [he.1, he.2] at this
  exact this
theorem zer {k : Nat} : ∀ n ∈ List.replicate k (0 : Int), 0 ≤ n ∧ n < 256 := fun n hn => by rw [(List.mem_replicate.1 hn).2]; decide
def zz (n : Nat) : Array Value := madeCells #[.int .u8 0] n
theorem zz_is (n : Nat) : zz n = ((List.replicate n (0 : Int)).map (Value.int .u8)).toArray := by
  apply Array.ext
  · unfold zz; rw [size_madeCells]; simp
  · intro i h1 h2
    have hi : i < n := by unfold zz at h1; rwa [size_madeCells] at h1
    have := made_at n i hi
    unfold zz at h1 ⊢
    rw [Array.getElem?_eq_getElem h1] at this
    simp at this
    simp [this]
theorem chk4096 : chkN 9 (List.replicate 4096 0) [] [] = 0 := by decide +kernel
theorem chk4097 : chkN 9 (List.replicate 4097 0) [] [] = 101122066 := by decide +kernel

set_option linter.unusedSimpArgs false in
set_option maxHeartbeats 8000000 in
set_option maxRecDepth 100000 in
theorem checks_any (w : World) (hT : Tabs w) : Calls Tryd.prog 10 #[] w fun e w' => e = .returned (.bool true) ∧ Below w.heap.size w w' := by
  go_enter Tryd.func10, Tryd.ntmps10
  have mk4096 : ∀ w : World, (Instr.makeSlice 22 (.int .i64 4096) (.int .i64 4096)).run Tryd.prog w = .ok (.slice (some ⟨w.heap.size, 0, none⟩) 4096 4096) (w.alloc (.cells (zz 4096) 5)) := fun w => by exact make_run 4096 (by decide) w
  have mk4097 : ∀ w : World, (Instr.makeSlice 22 (.int .i64 4097) (.int .i64 4097)).run Tryd.prog w = .ok (.slice (some ⟨w.heap.size, 0, none⟩) 4097 4097) (w.alloc (.cells (zz 4097) 5)) := fun w => by exact make_run 4097 (by decide) w
  have B0 : Below w.heap.size w (w.alloc (.cells #[.int .u8 5] 5)) := Below.al (Below.refl _ _) _
  have rF0 : Row (w.alloc (.cells #[.int .u8 5] 5)) (some ⟨w.heap.size, 0, none⟩) 1 [5] := rl [5] _ _ rfl rfl (by decide) rfl
  go_wp2_with fail
  refine (ck (t := 5) (E := 0) rF0 (row_nil _) (row_nil _) (hT.next B0) (by decide +kernel) (by decide)).mono ?_
  rintro e w1 ⟨rfl, bb⟩
  have B1 : Below w.heap.size w w1 := Below.andThen B0 bb
  have rF1 : Row w1 _ _ _ := (rF0).next bb
  clear bb rF0
  go_wp2_with fail
  refine (ck (t := 5) (E := 101122066) (rl [5, 6] _ _ (by simp) rfl (by decide) rfl) (row_nil _) (row_nil _) (hT.next (Below.al B1 _)) (by decide +kernel) (by decide)).mono ?_
  rintro e w2 ⟨rfl, bb⟩
  have B2 : Below w.heap.size w w2 := Below.andThen (Below.al B1 _) bb
  have rF2 : Row w2 _ _ _ := (rF1.al).next bb
  clear bb rF1
  go_wp2_with fail
  refine (ck (t := 5) (E := 101122067) (row_nil _) (row_nil _) (row_nil _) (hT.next B2) (by decide +kernel) (by decide)).mono ?_
  rintro e w3 ⟨rfl, bb⟩
  have B3 : Below w.heap.size w w3 := Below.andThen B2 bb
  have rF3 : Row w3 _ _ _ := (rF2).next bb
  clear bb rF2
  go_wp2_with fail
  refine (ck (t := 0) (E := 134217728) rF3 (row_nil _) (row_nil _) (hT.next B3) (by decide +kernel) (by decide)).mono ?_
  rintro e w4 ⟨rfl, bb⟩
  have B4 : Below w.heap.size w w4 := Below.andThen B3 bb
  have rF4 : Row w4 _ _ _ := (rF3).next bb
  clear bb rF3
  go_wp2_with fail
  refine (ck (t := 9) (E := 0) (rl (List.replicate 4096 0) _ _ (by simp) (by simp) zer (zz_is 4096)) (row_nil _) (row_nil _) (hT.next (Below.al B4 _)) (chk4096) (by decide)).mono ?_
  rintro e w5 ⟨rfl, bb⟩
  have B5 : Below w.heap.size w w5 := Below.andThen (Below.al B4 _) bb
  have rF5 : Row w5 _ _ _ := (rF4.al).next bb
  clear bb rF4
  go_wp2_with fail
  refine (ck (t := 9) (E := 101122066) (rl (List.replicate 4097 0) _ _ (by simp) (by simp) zer (zz_is 4097)) (row_nil _) (row_nil _) (hT.next (Below.al B5 _)) (chk4097) (by decide)).mono ?_
  rintro e w6 ⟨rfl, bb⟩
  have B6 : Below w.heap.size w w6 := Below.andThen (Below.al B5 _) bb
  have rF6 : Row w6 _ _ _ := (rF5.al).next bb
  clear bb rF5
  go_wp2_with fail
  refine (ck (t := 2) (E := 0) (rl [200] _ _ (by simp) rfl (by decide) rfl).al (rl [200] _ _ (by simp) rfl (by decide) rfl) rF6.al.al (hT.next (Below.al (Below.al B6 _) _)) (by decide +kernel) (by decide)).mono ?_
  rintro e w7 ⟨rfl, bb⟩
  have B7 : Below w.heap.size w w7 := Below.andThen (Below.al (Below.al B6 _) _) bb
  have rF7 : Row w7 _ _ _ := (rF6.al.al).next bb
  clear bb rF6
  go_wp2_with fail
  refine (ck (t := 2) (E := 101253169) (rl [6] _ _ (by simp) rfl (by decide) rfl).al (rl [200] _ _ (by simp) rfl (by decide) rfl) rF7.al.al (hT.next (Below.al (Below.al B7 _) _)) (by decide +kernel) (by decide)).mono ?_
  rintro e w8 ⟨rfl, bb⟩
  have B8 : Below w.heap.size w w8 := Below.andThen (Below.al (Below.al B7 _) _) bb
  have rF8 : Row w8 _ _ _ := (rF7.al.al).next bb
  clear bb rF7
  go_wp2_with fail
  refine (ck (t := 2) (E := 101253170) (rl [199] _ _ (by simp) rfl (by decide) rfl).al (rl [200] _ _ (by simp) rfl (by decide) rfl) rF8.al.al (hT.next (Below.al (Below.al B8 _) _)) (by decide +kernel) (by decide)).mono ?_
  rintro e w9 ⟨rfl, bb⟩
  have B9 : Below w.heap.size w w9 := Below.andThen (Below.al (Below.al B8 _) _) bb
  have rF9 : Row w9 _ _ _ := (rF8.al.al).next bb
  clear bb rF8
  go_wp2_with fail
  refine (ck (t := 2) (E := 0) (rl [6] _ _ (by simp) rfl (by decide) rfl).al rF9.al.al (rl [1, 2] _ _ (by simp) rfl (by decide) rfl) (hT.next (Below.al (Below.al B9 _) _)) (by decide +kernel) (by decide)).mono ?_
  rintro e w10 ⟨rfl, bb⟩
  have B10 : Below w.heap.size w w10 := Below.andThen (Below.al (Below.al B9 _) _) bb
  have rF10 : Row w10 _ _ _ := (rF9.al.al).next bb
  clear bb rF9
  go_wp2_with fail
  refine (ck (t := 9) (E := 0) rF10.al (rl [9] _ _ (by simp) rfl (by decide) rfl) (row_nil _) (hT.next (Below.al B10 _)) (by decide +kernel) (by decide)).mono ?_
  rintro e w11 ⟨rfl, bb⟩
  have B11 : Below w.heap.size w w11 := Below.andThen (Below.al B10 _) bb
  have rF11 : Row w11 _ _ _ := (rF10.al).next bb
  clear bb rF10
  go_wp2_with fail
  refine (ck (t := 1) (E := 101253170) (rl [0] _ _ (by simp) rfl (by decide) rfl).al.al (rl [1] _ _ (by simp) rfl (by decide) rfl).al (rl [2] _ _ (by simp) rfl (by decide) rfl) (hT.next (Below.al (Below.al (Below.al B11 _) _) _)) (by decide +kernel) (by decide)).mono ?_
  rintro e w12 ⟨rfl, bb⟩
  have B12 : Below w.heap.size w w12 := Below.andThen (Below.al (Below.al (Below.al B11 _) _) _) bb
  have rF12 : Row w12 _ _ _ := (rF11.al.al.al).next bb
  clear bb rF11
  have B12x : Below w.heap.size w (((w12.alloc (.cells #[.int .u8 1, .int .u8 0, .int .u8 192, .int .u8 127] 5)).alloc (.cells #[.int .u8 0, .int .u8 0, .int .u8 0, .int .u8 0] 5)).alloc (.cells #[.int .u8 0, .int .u8 0, .int .u8 0, .int .u8 128] 5)) := Below.al (Below.al (Below.al B12 _) _) _
  have rF12x : Row (((w12.alloc (.cells #[.int .u8 1, .int .u8 0, .int .u8 192, .int .u8 127] 5)).alloc (.cells #[.int .u8 0, .int .u8 0, .int .u8 0, .int .u8 0] 5)).alloc (.cells #[.int .u8 0, .int .u8 0, .int .u8 0, .int .u8 128] 5)) (some ⟨w.heap.size, 0, none⟩) 1 [5] := rF12.al.al.al
  have rN12x : Row (((w12.alloc (.cells #[.int .u8 1, .int .u8 0, .int .u8 192, .int .u8 127] 5)).alloc (.cells #[.int .u8 0, .int .u8 0, .int .u8 0, .int .u8 0] 5)).alloc (.cells #[.int .u8 0, .int .u8 0, .int .u8 0, .int .u8 128] 5)) (some ⟨w12.heap.size, 0, none⟩) 4 [1, 0, 192, 127] := (rl [1, 0, 192, 127] _ _ (by simp) rfl (by decide) rfl).al.al
  have rZ12x : Row (((w12.alloc (.cells #[.int .u8 1, .int .u8 0, .int .u8 192, .int .u8 127] 5)).alloc (.cells #[.int .u8 0, .int .u8 0, .int .u8 0, .int .u8 0] 5)).alloc (.cells #[.int .u8 0, .int .u8 0, .int .u8 0, .int .u8 128] 5)) (some ⟨w12.heap.size + 1, 0, none⟩) 4 [0, 0, 0, 0] := (rl [0, 0, 0, 0] _ _ (by simp) rfl (by decide) rfl).al
  have rS12x : Row (((w12.alloc (.cells #[.int .u8 1, .int .u8 0, .int .u8 192, .int .u8 127] 5)).alloc (.cells #[.int .u8 0, .int .u8 0, .int .u8 0, .int .u8 0] 5)).alloc (.cells #[.int .u8 0, .int .u8 0, .int .u8 0, .int .u8 128] 5)) (some ⟨w12.heap.size + 1 + 1, 0, none⟩) 4 [0, 0, 0, 128] := (rl [0, 0, 0, 128] _ _ (by simp) rfl (by decide) rfl)
  clear rF12 B12
  have B112 := B12x
  go_wp2_with fail
  refine (ck (t := 8) (E := 0) rN12x (row_nil _) (row_nil _) (hT.next B112) (by decide +kernel) (by decide)).mono ?_
  rintro e w113 ⟨rfl, bb⟩
  have B113 : Below w.heap.size w w113 := Below.andThen B112 bb
  have rF113 : Row w113 _ _ _ := (rF12x).next bb
  have rN113 : Row w113 _ _ _ := (rN12x).next bb
  have rZ113 : Row w113 _ _ _ := (rZ12x).next bb
  have rS113 : Row w113 _ _ _ := (rS12x).next bb
  clear bb rF12x rN12x rZ12x rS12x
  go_wp2_with fail
  refine (ck (t := 8) (E := 101253168) rN113 rZ113 (row_nil _) (hT.next B113) (by decide +kernel) (by decide)).mono ?_
  rintro e w114 ⟨rfl, bb⟩
  have B114 : Below w.heap.size w w114 := Below.andThen B113 bb
  have rF114 : Row w114 _ _ _ := (rF113).next bb
  have rN114 : Row w114 _ _ _ := (rN113).next bb
  have rZ114 : Row w114 _ _ _ := (rZ113).next bb
  have rS114 : Row w114 _ _ _ := (rS113).next bb
  clear bb rF113 rN113 rZ113 rS113
  go_wp2_with fail
  refine (ck (t := 8) (E := 0) rZ114 rN114 rN114 (hT.next B114) (by decide +kernel) (by decide)).mono ?_
  rintro e w115 ⟨rfl, bb⟩
  have B115 : Below w.heap.size w w115 := Below.andThen B114 bb
  have rF115 : Row w115 _ _ _ := (rF114).next bb
  have rN115 : Row w115 _ _ _ := (rN114).next bb
  have rZ115 : Row w115 _ _ _ := (rZ114).next bb
  have rS115 : Row w115 _ _ _ := (rS114).next bb
  clear bb rF114 rN114 rZ114 rS114
  go_wp2_with fail
  refine (ck (t := 8) (E := 0) rN115 rN115 (row_nil _) (hT.next B115) (by decide +kernel) (by decide)).mono ?_
  rintro e w116 ⟨rfl, bb⟩
  have B116 : Below w.heap.size w w116 := Below.andThen B115 bb
  have rF116 : Row w116 _ _ _ := (rF115).next bb
  have rN116 : Row w116 _ _ _ := (rN115).next bb
  have rZ116 : Row w116 _ _ _ := (rZ115).next bb
  have rS116 : Row w116 _ _ _ := (rS115).next bb
  clear bb rF115 rN115 rZ115 rS115
  go_wp2_with fail
  refine (ck (t := 8) (E := 101253170) rS116 rZ116 (row_nil _) (hT.next B116) (by decide +kernel) (by decide)).mono ?_
  rintro e w117 ⟨rfl, bb⟩
  have B117 : Below w.heap.size w w117 := Below.andThen B116 bb
  have rF117 : Row w117 _ _ _ := (rF116).next bb
  have rN117 : Row w117 _ _ _ := (rN116).next bb
  have rZ117 : Row w117 _ _ _ := (rZ116).next bb
  have rS117 : Row w117 _ _ _ := (rS116).next bb
  clear bb rF116 rN116 rZ116 rS116
  go_wp2_with fail
  refine (ck (t := 8) (E := 101253169) rZ117 (row_nil _) rS117 (hT.next B117) (by decide +kernel) (by decide)).mono ?_
  rintro e w118 ⟨rfl, bb⟩
  have B118 : Below w.heap.size w w118 := Below.andThen B117 bb
  have rF118 : Row w118 _ _ _ := (rF117).next bb
  have rN118 : Row w118 _ _ _ := (rN117).next bb
  have rZ118 : Row w118 _ _ _ := (rZ117).next bb
  have rS118 : Row w118 _ _ _ := (rS117).next bb
  clear bb rF117 rN117 rZ117 rS117
  go_wp2_with fail
  refine (ck (t := 8) (E := 101253169) (rl [0, 0, 128, 127] _ _ (by simp) rfl (by decide) rfl) (row_nil _) rZ118.al (hT.next (Below.al B118 _)) (by decide +kernel) (by decide)).mono ?_
  rintro e w119 ⟨rfl, bb⟩
  have B119 : Below w.heap.size w w119 := Below.andThen (Below.al B118 _) bb
  have rF119 : Row w119 _ _ _ := (rF118.al).next bb
  have rN119 : Row w119 _ _ _ := (rN118.al).next bb
  have rZ119 : Row w119 _ _ _ := (rZ118.al).next bb
  have rS119 : Row w119 _ _ _ := (rS118.al).next bb
  clear bb rF118 rN118 rZ118 rS118
  go_wp2_with fail
  refine (ck (t := 8) (E := 101253170) (rl [0, 0, 128, 255] _ _ (by simp) rfl (by decide) rfl) rS119.al (row_nil _) (hT.next (Below.al B119 _)) (by decide +kernel) (by decide)).mono ?_
  rintro e w120 ⟨rfl, bb⟩
  have B120 : Below w.heap.size w w120 := Below.andThen (Below.al B119 _) bb
  have rF120 : Row w120 _ _ _ := (rF119.al).next bb
  have rN120 : Row w120 _ _ _ := (rN119.al).next bb
  have rZ120 : Row w120 _ _ _ := (rZ119.al).next bb
  have rS120 : Row w120 _ _ _ := (rS119.al).next bb
  clear bb rF119 rN119 rZ119 rS119
  go_wp2_with fail
  refine (cm (t := 8) (R := 0) (O := false) rN120 rZ120 (hT.next B120) (by decide +kernel) (by decide +kernel) (by decide)).mono ?_
  rintro e w121 ⟨rfl, bb⟩
  have B121 : Below w.heap.size w w121 := Below.andThen B120 bb
  have rF121 : Row w121 _ _ _ := (rF120).next bb
  have rN121 : Row w121 _ _ _ := (rN120).next bb
  have rZ121 : Row w121 _ _ _ := (rZ120).next bb
  have rS121 : Row w121 _ _ _ := (rS120).next bb
  clear bb rF120 rN120 rZ120 rS120
  go_wp2_with fail
  refine (cm (t := 9) (R := 0) (O := false) rF121 rF121 (hT.next B121) (by decide +kernel) (by decide +kernel) (by decide)).mono ?_
  rintro e w122 ⟨rfl, bb⟩
  have B122 : Below w.heap.size w w122 := Below.andThen B121 bb
  have rF122 : Row w122 _ _ _ := (rF121).next bb
  have rN122 : Row w122 _ _ _ := (rN121).next bb
  have rZ122 : Row w122 _ _ _ := (rZ121).next bb
  have rS122 : Row w122 _ _ _ := (rS121).next bb
  clear bb rF121 rN121 rZ121 rS121
  go_wp2_with fail
  refine (cm (t := 0) (R := 0) (O := false) rF122 rF122 (hT.next B122) (by decide +kernel) (by decide +kernel) (by decide)).mono ?_
  rintro e w123 ⟨rfl, bb⟩
  have B123 : Below w.heap.size w w123 := Below.andThen B122 bb
  have rF123 : Row w123 _ _ _ := (rF122).next bb
  have rN123 : Row w123 _ _ _ := (rN122).next bb
  have rZ123 : Row w123 _ _ _ := (rZ122).next bb
  have rS123 : Row w123 _ _ _ := (rS122).next bb
  clear bb rF122 rN122 rZ122 rS122
  go_wp2_with fail
  refine (cm (t := 12) (R := (-1)) (O := true) (rl [9, 0, 0, 0, 1, 0] _ _ (by simp) rfl (by decide) rfl).al (rl [1, 0, 0, 0, 2, 0] _ _ (by simp) rfl (by decide) rfl) (hT.next (Below.al (Below.al B123 _) _)) (by decide +kernel) (by decide +kernel) (by decide)).mono ?_
  rintro e w124 ⟨rfl, bb⟩
  have B124 : Below w.heap.size w w124 := Below.andThen (Below.al (Below.al B123 _) _) bb
  have rF124 : Row w124 _ _ _ := (rF123.al.al).next bb
  have rN124 : Row w124 _ _ _ := (rN123.al.al).next bb
  have rZ124 : Row w124 _ _ _ := (rZ123.al.al).next bb
  have rS124 : Row w124 _ _ _ := (rS123.al.al).next bb
  clear bb rF123 rN123 rZ123 rS123
  go_wp2_with fail
  refine (tx (t := 0) (E := 10) rF124 (hT.next B124) (by decide +kernel) (by decide)).mono ?_
  rintro e w125 ⟨rfl, bb⟩
  have B125 : Below w.heap.size w w125 := Below.andThen B124 bb
  have rF125 : Row w125 _ _ _ := (rF124).next bb
  have rN125 : Row w125 _ _ _ := (rN124).next bb
  have rZ125 : Row w125 _ _ _ := (rZ124).next bb
  have rS125 : Row w125 _ _ _ := (rS124).next bb
  clear bb rF124 rN124 rZ124 rS124
  go_wp2_with fail
  refine (tx (t := 1) (E := 11) rF125 (hT.next B125) (by decide +kernel) (by decide)).mono ?_
  rintro e w126 ⟨rfl, bb⟩
  have B126 : Below w.heap.size w w126 := Below.andThen B125 bb
  have rF126 : Row w126 _ _ _ := (rF125).next bb
  have rN126 : Row w126 _ _ _ := (rN125).next bb
  have rZ126 : Row w126 _ _ _ := (rZ125).next bb
  have rS126 : Row w126 _ _ _ := (rS125).next bb
  clear bb rF125 rN125 rZ125 rS125
  go_wp2_with fail
  refine (value_none 0 ⟨#[53]⟩ _ (by decide)).mono ?_
  rintro e w127 ⟨rfl, bb⟩
  have B127 : Below w.heap.size w w127 := Below.andThen B126 bb
  have rF127 : Row w127 _ _ _ := (rF126).next bb
  have rN127 : Row w127 _ _ _ := (rN126).next bb
  have rZ127 : Row w127 _ _ _ := (rZ126).next bb
  have rS127 : Row w127 _ _ _ := (rS126).next bb
  clear bb rF126 rN126 rZ126 rS126
  go_wp2_with fail
  refine (ck (t := 12) (E := 101253168) (rl [0, 92, 38, 5, 0, 0] _ _ (by simp) rfl (by decide) rfl) (row_nil _) (row_nil _) (hT.next (Below.al B127 _)) (by decide +kernel) (by decide)).mono ?_
  rintro e w128 ⟨rfl, bb⟩
  have B128 : Below w.heap.size w w128 := Below.andThen (Below.al B127 _) bb
  have rF128 : Row w128 _ _ _ := (rF127.al).next bb
  have rN128 : Row w128 _ _ _ := (rN127.al).next bb
  have rZ128 : Row w128 _ _ _ := (rZ127.al).next bb
  have rS128 : Row w128 _ _ _ := (rS127.al).next bb
  clear bb rF127 rN127 rZ127 rS127
  go_wp2_with fail
  go_ret
  exact ⟨rfl, B128⟩
#print axioms checks_any
end Go.Proofs.YtkfmmpolcjbnbaaDoor
