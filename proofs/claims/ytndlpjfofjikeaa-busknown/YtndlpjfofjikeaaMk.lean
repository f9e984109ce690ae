/-
  The walks of Make, Ask and Before, the program's and the document's.
-/
import Derived.Test.YtndlpjfofjikeaaRt
import Derived.Laws.CopyOwn
namespace Go.Proofs.Ytndlpjfofjikeaa
open Go.RowKit

theorem infoF : (Try.prog.info? 27).map (·.size) = some 11 := by kernel_rfl

theorem frC_one (id n d0 d1 d2 d3 d4 d5 d6 d7 : Int) (r : Bool) : (frC id n d0 d1 d2 d3 d4 d5 d6 d7 r).all (·.oneCell') = true := by simp [Value.oneCell']

/-- A frame and a code. -/
structure FrR where
  i : Int
  n : Int
  d0 : Int
  d1 : Int
  d2 : Int
  d3 : Int
  d4 : Int
  d5 : Int
  d6 : Int
  d7 : Int
  r : Bool
  c : Int
/-- As a call's two results. -/
abbrev FrR.tup (q : FrR) : Value := .tuple #[frV q.i q.n q.d0 q.d1 q.d2 q.d3 q.d4 q.d5 q.d6 q.d7 q.r, .int .i64 q.c]
def FrR.ds (q : FrR) : List Int := [q.d0, q.d1, q.d2, q.d3, q.d4, q.d5, q.d6, q.d7]
/-- No frame, with a code. -/
def noFr (c : Int) : FrR := ⟨0, 0, 0, 0, 0, 0, 0, 0, 0, 0, false, c⟩
/-- What Make tells. -/
def mkR (id : Int) (zs : List Int) : FrR := if id ≤ 2047 ∧ zs.length ≤ 8 then ⟨id, zs.length, zb zs 0, zb zs 1, zb zs 2, zb zs 3, zb zs 4, zb zs 5, zb zs 6, zb zs 7, false, 0⟩ else noFr 2
/-- What Ask tells. -/
def askR (id n : Int) : FrR := if id ≤ 2047 ∧ 0 ≤ n ∧ n ≤ 8 then ⟨id, n, 0, 0, 0, 0, 0, 0, 0, 0, true, 0⟩ else noFr 2

theorem mkR_good (id : Int) (zs : List Int) (h1 : id ≤ 2047) (h2 : zs.length ≤ 8) : mkR id zs = ⟨id, zs.length, zb zs 0, zb zs 1, zb zs 2, zb zs 3, zb zs 4, zb zs 5, zb zs 6, zb zs 7, false, 0⟩ := if_pos ⟨h1, h2⟩
theorem mkR_bad (id : Int) (zs : List Int) (h : 2047 < id ∨ 8 < zs.length) : mkR id zs = noFr 2 := if_neg (by omega)
theorem askR_good (id n : Int) (h1 : id ≤ 2047) (h2 : 0 ≤ n) (h3 : n ≤ 8) : askR id n = ⟨id, n, 0, 0, 0, 0, 0, 0, 0, 0, true, 0⟩ := if_pos ⟨h1, h2, h3⟩
theorem askR_bad (id n : Int) (h : 2047 < id ∨ n < 0 ∨ 8 < n) : askR id n = noFr 2 := if_neg (by omega)

/-- Does a frame go ahead of another? -/
def befB (i : Int) (r : Bool) (j : Int) (s : Bool) : Bool := decide (i < j) || (i == j && (!r && s))

set_option maxHeartbeats 2000000 in
set_option maxRecDepth 100000 in
theorem before_any (i n d0 d1 d2 d3 d4 d5 d6 d7 : Int) (r : Bool) (j m e0 e1 e2 e3 e4 e5 e6 e7 : Int) (s : Bool) (w : World) :
    Calls Try.prog 83 #[frV i n d0 d1 d2 d3 d4 d5 d6 d7 r, frV j m e0 e1 e2 e3 e4 e5 e6 e7 s] w fun e w' => e = .returned (.bool (befB i r j s)) ∧ Below w.heap.size w w' := by
  by_cases h : i = j
  · subst h
    have H : Hid (befB i r i s = (!r && s)) := by show _ = _; simp [befB]
    cases r
    all_goals
      go_enter Try.func83, Try.ntmps83
      go_wp2_with fail
      go_ret
      exact ⟨ret_bool (by rw [H.out]; simp), Below.al (Below.al (Below.refl _ _) _) _⟩
  · have H : Hid (befB i r j s = decide (i < j)) := by show _ = _; simp [befB, h]
    go_enter Try.func83, Try.ntmps83
    go_wp2_with fail
    go_ret
    exact ⟨ret_bool (by rw [H.out]), Below.al (Below.al (Below.refl _ _) _) _⟩

set_option maxHeartbeats 2000000 in
set_option maxRecDepth 100000 in
theorem refBefore_any (i n d0 d1 d2 d3 d4 d5 d6 d7 : Int) (r : Bool) (j m e0 e1 e2 e3 e4 e5 e6 e7 : Int) (s : Bool) (w : World) :
    Calls Try.prog 41 #[frV i n d0 d1 d2 d3 d4 d5 d6 d7 r, frV j m e0 e1 e2 e3 e4 e5 e6 e7 s] w fun e w' => e = .returned (.bool (befB i r j s)) ∧ Below w.heap.size w w' := by
  by_cases h : i = j
  · subst h
    have H : Hid (befB i r i s = (!r && s)) := by show _ = _; simp [befB]
    cases r
    all_goals
      go_enter Try.func41, Try.ntmps41
      go_wp2_with fail
      go_ret
      exact ⟨ret_bool (by rw [H.out]; simp), Below.al (Below.al (Below.refl _ _) _) _⟩
  · have H : Hid (befB i r j s = decide (i < j)) := by show _ = _; simp [befB, h]
    by_cases h2 : i < j
    all_goals
      go_enter Try.func41, Try.ntmps41
      go_wp2_with fail
      go_ret
      exact ⟨ret_bool (by rw [H.out]; simp; try omega), Below.al (Below.al (Below.refl _ _) _) _⟩
end Go.Proofs.Ytndlpjfofjikeaa
