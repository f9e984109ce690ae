/-
  The dictionary of layer 8's example: writes, reads, what is saved.
-/
import Derived.Test.YtgfmcjneglnnpaaDoorHi
import Derived.Test.YtgfmcjneglnnpaaDoorDq
import Derived.Test.YtgfmcjneglnnpaaDoorDr
import Derived.Test.YtgfmcjneglnnpaaDoorDo
namespace Go.Proofs.YtgfmcjneglnnpaaDoor
open Go.RowKit

/-- Bytes that lie elsewhere. -/
def Fa8 (w : World) (S : List Nat) (a : Option Addr) (len cap : Nat) (zs : List Int) : Prop := SlOk w a len cap zs ∧ (0 < len → ∀ b off, a = some ⟨b, off, none⟩ → b ∉ S)
theorem Fa8.next {w w' : World} {S : List Nat} {a : Option Addr} {len cap : Nat} {zs : List Int} (h : Fa8 w S a len cap zs) (hb : Below w.heap.size w w') : Fa8 w' S a len cap zs := ⟨h.1.next hb, h.2⟩
theorem Fa8.kp {w w' : World} {S : List Nat} {a : Option Addr} {len cap : Nat} {zs : List Int} (h : Fa8 w S a len cap zs) (hb : Kp S w w') : Fa8 w' S a len cap zs := ⟨⟨h.1.row.kps hb h.2, h.1.le, h.1.max⟩, h.2⟩
/-- Its two entries. -/
abbrev ls8 (a1 : Option Addr) (c1 : Nat) (a2 : Option Addr) (c2 : Nat) (a3 : Option Addr) (c3 : Nat) (v : Option Addr) (cv : Nat) (b1 : Option Addr) (d1 : Nat) (b2 : Option Addr) (d2 : Nat) (b3 : Option Addr) (d3 : Nat) (u : Option Addr) (du : Nat) : Mp :=
  [(8192, 1, .agg (itC 8192 1 ⟨#[97]⟩ 5 11 a1 1 c1 a2 1 c2 a3 1 c3 3 1 v 1 cv)), (8192, 0, .agg (itC 8192 0 ⟨#[]⟩ 5 1 b1 1 d1 b2 0 d2 b3 0 d3 0 0 u 1 du))]
structure D8 (w : World) (p m : Nat) (cg z : Int) (a1 : Option Addr) (c1 : Nat) (a2 : Option Addr) (c2 : Nat) (a3 : Option Addr) (c3 : Nat) (v : Option Addr) (cv : Nat) (b1 : Option Addr) (d1 : Nat) (b2 : Option Addr) (d2 : Nat) (b3 : Option Addr) (d3 : Nat) (u : Option Addr) (du : Nat) : Prop where
  h : w.heap[p]? = some (.cells #[.map (some m), .int .i64 cg] 80 (0, 0))
  mm : IsM w m (ls8 a1 c1 a2 c2 a3 c3 v cv b1 d1 b2 d2 b3 d3 u du)
  l : Fa8 w [p, m] a2 1 c2 [1]
  g : Fa8 w [p, m] a3 1 c3 [9]
  v : Fa8 w [p, m] v 1 cv [z]
  u : Fa8 w [p, m] u 1 du [1]
  ne : p ≠ m
  tb : Ty.Tab64 w
  old : 1 < p ∧ 1 < m
abbrev DX (w : World) (p m : Nat) (cg z : Int) : Prop := ∃ a1 c1 a2 c2 a3 c3 v cv b1 d1 b2 d2 b3 d3 u du, D8 w p m cg z a1 c1 a2 c2 a3 c3 v cv b1 d1 b2 d2 b3 d3 u du
theorem DX.next {w w' : World} {p m : Nat} {cg z : Int} (h : DX w p m cg z) (hb : Below w.heap.size w w') : DX w' p m cg z := by
  obtain ⟨a1, c1, a2, c2, a3, c3, v, cv, b1, d1, b2, d2, b3, d3, u, du, h⟩ := h
  exact ⟨a1, c1, a2, c2, a3, c3, v, cv, b1, d1, b2, d2, b3, d3, u, du, blk11 hb h.h, h.mm.next hb, h.l.next hb, h.g.next hb, h.v.next hb, h.u.next hb, h.ne, tab_next h.tb hb, h.old⟩
theorem DX.lt {w : World} {p m : Nat} {cg z : Int} (h : DX w p m cg z) : p < w.heap.size ∧ m < w.heap.size := by
  obtain ⟨a1, c1, a2, c2, a3, c3, v, cv, b1, d1, b2, d2, b3, d3, u, du, h⟩ := h
  exact ⟨lt_of_heap h.h, h.mm.lt⟩
theorem exNew8x (w : World) (hT : Ty.Tab64 w) : Calls Tryd.prog 21 #[.slice (some ⟨w.heap.size + 1 + 1 + 1 + 1, 0, none⟩) 2 2] (exW8 w) fun e w1 => ∃ p m, e = .returned (.tuple #[.pointer (some ⟨p, 0, none⟩), .int .i64 0]) ∧ Below w.heap.size w w1 ∧ w.heap.size ≤ p ∧ w.heap.size ≤ m ∧ DX w1 p m 0 5 := by
  have T0 : Ty.Tab64 (exW8 w) := hT.below (exW8_below w) hT.old
  refine (exNew8 w T0).mono ?_
  rintro r w1 ⟨lst, rfl, hb, hd, hm, hB⟩
  obtain ⟨a1, c1, a2, c2, a3, c3, v, lv, cv, g0, k1, k2, k3, k4⟩ := hB.2 0 _ (show (exE8 w.heap.size)[0]? = some _ from rfl)
  obtain ⟨b1, d1, b2, d2, b3, d3, u, lu, du, g1, _, _, _, k8⟩ := hB.2 1 _ (show (exE8 w.heap.size)[1]? = some _ from rfl)
  dsimp only at g0 k1 k2 k3 k4 g1 k8
  have hf : firstL 5 [5] = [5] := by decide +kernel
  have hf1 : firstL 5 [1] = [1] := by decide +kernel
  rw [hf] at k4
  rw [hf1] at k8
  have hlv : lv = 1 := k4.1.row.size.symm
  have hlu : lu = 1 := k8.1.row.size.symm
  subst hlv
  subst hlu
  have hl : lst = ls8 a1 c1 a2 c2 a3 c3 v cv b1 d1 b2 d2 b3 d3 u du := by
    have h2 := hB.1
    rcases lst with _ | ⟨x, _ | ⟨y, _ | ⟨z, t⟩⟩⟩
    · simp at g0
    · simp at g1
    · simp only [List.getElem?_cons_zero, List.getElem?_cons_succ, Option.some.injEq] at g0 g1
      rw [g0, g1]
    · simp [exE8] at h2
  subst hl
  have hs := exW8_size w
  have old := hT.old
  have far : ∀ {a : Option Addr} {len cap : Nat} {zs : List Int}, Kept w1 ((exW8 w).heap.size + 2) a len cap zs → Fa8 w1 [(exW8 w).heap.size + 1, (exW8 w).heap.size] a len cap zs := fun k => ⟨k.1, fun hl b off e => by
    have h1 := k.2 hl b off e
    simp
    omega⟩
  exact ⟨(exW8 w).heap.size + 1, (exW8 w).heap.size, rfl, Below.andThen (exW8_below w) hb, by omega, by omega, a1, c1, a2, c2, a3, c3, v, cv, b1, d1, b2, d2, b3, d3, u, du, hd, hm, far k2, far k3, far k4, far k8, by omega, T0.below hb T0.old, by omega, by omega⟩
theorem rw8 : (bits .and .u8 11 2 != 0) = true := by decide +kernel
theorem rr8 : (bits .and .u8 11 1 != 0) = true := by decide +kernel
theorem hi8 : Ty.chkN 5 [10] [1] [9] = 101253169 := by decide +kernel
theorem ok8 : Ty.chkN 5 [7] [1] [9] = 0 := by decide +kernel
theorem DX.bad {w : World} {p m : Nat} {cg z : Int} (h : DX w p m cg z) (b : Option Addr) (rb : SlOk w b 1 1 [10]) : Calls Tryd.prog 12 #[.pointer (some ⟨p, 0, none⟩), plV 8192 1, .slice b 1 1] w fun e w' => e = .returned (.int .u32 101253169) ∧ Below w.heap.size w w' := by
  obtain ⟨a1, c1, a2, c2, a3, c3, v, cv, b1, d1, b2, d2, b3, d3, u, du, h⟩ := h
  exact write_bad p m cg _ 8192 1 _ 5 11 a1 1 c1 a2 1 c2 a3 1 c3 3 1 v 1 cv b 1 1 [10] [1] [9] w h.h h.mm rfl rb h.l.1 h.g.1 h.tb rw8 101253169 hi8 (by decide)
theorem DX.put {w : World} {p m : Nat} {z : Int} (h : DX w p m 0 z) (b : Option Addr) (rb : SlOk w b 1 1 [7]) : Calls Tryd.prog 12 #[.pointer (some ⟨p, 0, none⟩), plV 8192 1, .slice b 1 1] w fun e w' => e = .returned (.int .u32 0) ∧ DX w' p m 1 7 ∧ Kp [p, m] w w' := by
  obtain ⟨a1, c1, a2, c2, a3, c3, v, cv, b1, d1, b2, d2, b3, d3, u, du, h⟩ := h
  refine (write_at p m 0 _ 8192 1 _ 5 11 a1 1 c1 a2 1 c2 a3 1 c3 3 1 v 1 cv b 1 1 [7] [1] [9] w h.h h.mm rfl rb h.l.1 h.g.1 h.tb rw8 ok8 (by decide) (by decide) (by decide) h.ne).mono ?_
  rintro e w' ⟨rfl, a', c', k, hh, hm, ht⟩
  have lp := lt_of_heap h.h
  have lm := h.mm.lt
  refine ⟨rfl, ⟨a1, c1, a2, c2, a3, c3, a', c', b1, d1, b2, d2, b3, d3, u, du, hh, hm, h.l.kp k, h.g.kp k, ⟨⟨ht.row, ht.le, ht.max⟩, fun hl b off e => ?_⟩, h.u.kp k, h.ne, ?_, h.old⟩, k⟩
  · obtain ⟨g, hg, hge, _⟩ := ht.own hl
    rw [e] at hg
    cases hg
    simp
    omega
  · intro j hj
    have hc := h.tb j hj
    have old := h.old
    rw [World.cell?_of_block (w := w) (k.block _ h.tb.old (by simp; omega))]
    exact hc
theorem DX.read {w : World} {p m : Nat} {cg z : Int} (h : DX w p m cg z) : Calls Tryd.prog 6 #[.pointer (some ⟨p, 0, none⟩), plV 8192 1] w fun e w' => (∃ a' cap', e = .returned (.tuple #[.slice a' 1 cap', .int .u32 0]) ∧ Told w w' a' 1 cap' [z]) ∧ Below w.heap.size w w' := by
  obtain ⟨a1, c1, a2, c2, a3, c3, v, cv, b1, d1, b2, d2, b3, d3, u, du, h⟩ := h
  exact read_at p m cg _ 8192 1 _ 5 11 a1 1 c1 a2 1 c2 a3 1 c3 3 1 v 1 cv [z] w h.h h.mm rfl h.v.1 (by decide) rr8
theorem srt_of {l l' : List Pq} (h : l'.Perm l) (hs : l'.Pairwise fun x y => (!(Go.Proofs.ltOf cfP) y x) = true) : srt l = l' := by
  refine List.Perm.eq_of_pairwise (le := fun x y => (!(Go.Proofs.ltOf cfP) y x) = true) ?_ (srt_sorted l) hs ((srt_perm l).trans h.symm)
  intro a b _ _ h1 h2
  simp only [Bool.not_eq_true'] at h1 h2
  exact totP a b h2 h1
theorem DX.save {w : World} {p m : Nat} {cg z : Int} (h : DX w p m cg z) : Calls Tryd.prog 15 #[.pointer (some ⟨p, 0, none⟩), .int .u8 1] w fun e w' => (∃ v, e = .returned v ∧ IsO w' w.heap.size v [0, 32, 1, 1, 0, z]) ∧ Below w.heap.size w w' := by
  obtain ⟨a1, c1, a2, c2, a3, c3, v, cv, b1, d1, b2, d2, b3, d3, u, du, h⟩ := h
  have hv : Vals w (ls8 a1 c1 a2 c2 a3 c3 v cv b1 d1 b2 d2 b3 d3 u du) (fun _ s => if s = 1 then [z] else [1]) := by
    intro i s q hq
    simp only [lookP] at hq
    split at hq
    · rename_i hc
      simp only [Bool.and_eq_true, beq_iff_eq] at hc
      obtain ⟨rfl, rfl⟩ := hc
      cases hq
      exact ⟨_, _, _, _, _, _, _, _, _, _, _, _, _, _, _, _, _, rfl, by simpa using h.v.1.row, by decide, by decide, by decide⟩
    · split at hq
      · rename_i hc
        simp only [Bool.and_eq_true, beq_iff_eq] at hc
        obtain ⟨rfl, rfl⟩ := hc
        cases hq
        exact ⟨_, _, _, _, _, _, _, _, _, _, _, _, _, _, _, _, _, rfl, by simpa using h.u.1.row, by decide, by decide, by decide⟩
      · cases hq
  have hk : srt (keysOf (ls8 a1 c1 a2 c2 a3 c3 v cv b1 d1 b2 d2 b3 d3 u du)) = [⟨8192, 0⟩, ⟨8192, 1⟩] := by
    refine srt_of (List.Perm.swap _ _ _) ?_
    simp [ltP]
  have b0 : (bits .and .u8 1 8 != 0) = false := by decide +kernel
  have b1' : (bits .and .u8 11 8 != 0) = true := by decide +kernel
  have hs : sto (ls8 a1 c1 a2 c2 a3 c3 v cv b1 d1 b2 d2 b3 d3 u du) 1 = [⟨8192, 1⟩] := by
    unfold sto
    rw [hk]
    simp [lookP, stB, stI, b0, b1']
  have hb : savK (ls8 a1 c1 a2 c2 a3 c3 v cv b1 d1 b2 d2 b3 d3 u du) 1 (fun _ s => if s = 1 then [z] else [1]) 1 = [0, 32, 1, 1, 0, z] := by
    unfold savK
    rw [hs]
    simp [recB]
  refine (save_any p m cg 1 _ _ w h.h h.mm hv (by simp)).mono ?_
  rintro e w' ⟨q, rfl, hq, hbl⟩
  rw [hs] at hq
  rw [show ([⟨8192, 1⟩] : List Pq).length = 1 from rfl, hb] at hq
  exact ⟨⟨q, rfl, hq⟩, hbl⟩
#print axioms DX.save
end Go.Proofs.YtgfmcjneglnnpaaDoor
