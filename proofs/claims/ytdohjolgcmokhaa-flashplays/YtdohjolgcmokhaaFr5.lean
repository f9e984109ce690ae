/-
  Rows of calls, and what they make of a flash's state.
-/
import Derived.Test.YtdohjolgcmokhaaFk
namespace Go.Proofs.Ytdohjolgcmokhaa
open Go.RowKit

/-- A call that came in. -/
structure Opv where
  k : Int
  A : Int
  B : Int
  w0 : Int
  w1 : Int
  w2 : Int
  w3 : Int
structure Opv.Ok (x : Opv) : Prop where
  k0 : 0 ≤ x.k
  k1 : x.k < 256
  a1 : x.A < 9223372036854775808
  ow : Oct [x.w0, x.w1, x.w2, x.w3]
/-- A row of calls in memory. -/
structure IsOps (w : World) (a : Option Addr) (len : Nat) (l : List Opv) : Prop where
  size : l.length = len
  good : ∀ x ∈ l, x.Ok
  at_ : 0 < len → ∃ b off, a = some ⟨b, off, none⟩ ∧ ∀ (i : Nat) (x : Opv), l[i]? = some x → w.cell? ⟨b, off + i * 7, none⟩ = some (.int .u8 x.k) ∧ w.cell? ⟨b, off + i * 7 + 1, none⟩ = some (.int .i64 x.A) ∧ w.cell? ⟨b, off + i * 7 + 2, none⟩ = some (.int .i64 x.B) ∧ w.cell? ⟨b, off + i * 7 + 3, none⟩ = some (.int .u8 x.w0) ∧ w.cell? ⟨b, off + i * 7 + 3 + 1, none⟩ = some (.int .u8 x.w1) ∧ w.cell? ⟨b, off + i * 7 + 3 + 2, none⟩ = some (.int .u8 x.w2) ∧ w.cell? ⟨b, off + i * 7 + 3 + 3, none⟩ = some (.int .u8 x.w3)
theorem IsOps.kp {w w' : World} {a : Option Addr} {len : Nat} {l : List Opv} {S : List Nat} (h : IsOps w a len l) (k : Kp S w w') (hS : ∀ b off, a = some ⟨b, off, none⟩ → b ∉ S) : IsOps w' a len l where
  size := h.size
  good := h.good
  at_ := fun hp => by
    obtain ⟨b, off, e, hc⟩ := h.at_ hp
    have hb := hS b off e
    refine ⟨b, off, e, fun i x hx => ?_⟩
    obtain ⟨c0, c1, c2, c3, c4, c5, c6⟩ := hc i x hx
    exact ⟨k.cell c0 hb, k.cell c1 hb, k.cell c2 hb, k.cell c3 hb, k.cell c4 hb, k.cell c5 hb, k.cell c6 hb⟩
/-- One of them. -/
theorem IsOps.one {w : World} {b off len : Nat} {l : List Opv} (h : IsOps w (some ⟨b, off, none⟩) len l) (i : Nat) (x : Opv) (hx : l[i]? = some x) : IsOps w (some ⟨b, off + i * 7, none⟩) 1 [x] where
  size := rfl
  good := fun y hy => by
    rw [List.mem_singleton] at hy; subst hy
    exact h.good _ (List.mem_of_getElem? hx)
  at_ := fun _ => by
    have hi : i < l.length := (List.getElem?_eq_some_iff.1 hx).1
    obtain ⟨b', off', e, hc⟩ := h.at_ (by have := h.size; omega)
    cases e
    refine ⟨b, off + i * 7, rfl, fun j y hy => ?_⟩
    have : j = 0 := by have := (List.getElem?_eq_some_iff.1 hy).1; simp at this; omega
    subst this
    obtain rfl : x = y := by simpa using hy
    have := hc i x hx
    simpa using this

/-- One call: what is behind it. -/
def FS.op (n : Nat) (s : FS) (x : Opv) : FS :=
  if x.k % 9 = 0 ∨ x.k % 9 = 1 ∨ x.k % 9 = 2 then (s.write n x.A x.B x.w0 x.w1 x.w2 x.w3).2
  else if x.k % 9 = 3 then (s.erase n x.A).2
  else if x.k % 9 = 4 then ⟨s.cs, s.st, decide (0 ≤ x.A), max x.A 0, s.of⟩
  else if x.k % 9 = 5 then ⟨s.cs, s.st, false, 0, false⟩ else s
def FS.ops (n : Nat) (s : FS) (l : List Opv) : FS := l.foldl (FS.op n) s
theorem FS.ops_next (n : Nat) (s : FS) (l : List Opv) (i : Nat) (x : Opv) (h : l[i]? = some x) : s.ops n (l.take (i + 1)) = (s.ops n (l.take i)).op n x := by
  unfold FS.ops
  rw [List.take_add_one, h]
  simp
/-- So many steps at most. -/
structure FS.Le (s : FS) (m : Nat) : Prop where
  st0 : 0 ≤ s.st
  st1 : s.st ≤ m
  lf0 : 0 ≤ s.lf
  lf1 : s.lf < 9223372036854775808
theorem FS.Le.ok {s : FS} {m : Nat} (h : s.Le m) (hm : m ≤ 1000000) : s.Ok := ⟨h.st0, by have := h.st1; omega, h.lf0, h.lf1⟩
theorem FS.Le.more {s : FS} {m k : Nat} (h : s.Le m) (hm : m ≤ k) : s.Le k := ⟨h.st0, by have := h.st1; omega, h.lf0, h.lf1⟩
theorem FS.Le.step {s : FS} {m : Nat} (h : s.Le m) (cs : List Int) : (s.step cs).2.Le (m + 1) := by
  obtain ⟨a, b, c, d⟩ := h
  by_cases ha : s.ar = true
  · by_cases hz : s.lf = 0
    · rw [FS.step_cut ha hz]; exact ⟨a, by show s.st ≤ _; omega, c, d⟩
    · rw [FS.step_armed ha hz]; exact ⟨by show 0 ≤ s.st + 1; omega, by show s.st + 1 ≤ _; omega, by show 0 ≤ s.lf - 1; omega, by show s.lf - 1 < _; omega⟩
  · rw [FS.step_free (by simpa using ha)]; exact ⟨by show 0 ≤ s.st + 1; omega, by show s.st + 1 ≤ _; omega, c, d⟩
theorem FS.Le.write {s : FS} {m : Nat} (h : s.Le m) (n : Nat) (k d b0 b1 b2 b3 : Int) : (s.write n k d b0 b1 b2 b3).2.Le (m + 1) := by
  unfold FS.write
  split
  · exact h.more (by omega)
  · split
    · exact h.step _
    · exact h.more (by omega)
theorem FS.Le.erase {s : FS} {m : Nat} (h : s.Le m) (n : Nat) (k : Int) : (s.erase n k).2.Le (m + 1) := by
  unfold FS.erase
  split
  · exact h.more (by omega)
  · exact h.step _
theorem FS.Le.op {s : FS} {m : Nat} (h : s.Le m) (n : Nat) (x : Opv) (hx : x.Ok) : (s.op n x).Le (m + 1) := by
  unfold FS.op
  split
  · exact h.write _ _ _ _ _ _ _
  split
  · exact h.erase _ _
  split
  · exact ⟨h.st0, by have := h.st1; show s.st ≤ _; omega, by show 0 ≤ max x.A 0; omega, by have := hx.a1; show max x.A 0 < _; omega⟩
  split
  · exact ⟨h.st0, by have := h.st1; show s.st ≤ _; omega, by show (0 : Int) ≤ 0; omega, by show (0 : Int) < _; omega⟩
  · exact h.more (by omega)
theorem FS.Le.ops (n : Nat) : ∀ (l : List Opv) (s : FS) (m : Nat), s.Le m → (∀ x ∈ l, x.Ok) → (s.ops n l).Le (m + l.length)
  | [], _, _, h, _ => h
  | x :: r, s, m, h, hx => by
    have := FS.Le.ops n r (s.op n x) (m + 1) (h.op n x (hx x (by simp))) (fun y hy => hx y (by simp [hy]))
    rw [show m + (x :: r).length = m + 1 + r.length from by simp; omega]
    exact this
#print axioms FS.Le.ops
end Go.Proofs.Ytdohjolgcmokhaa
