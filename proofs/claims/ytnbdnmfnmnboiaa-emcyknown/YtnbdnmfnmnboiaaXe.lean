/-
  What the listener of EmcyKnows knows, plain.
-/
import Derived.Test.YtnbdnmfnmnboiaaZu
import Derived.Test.YtnbdnmfnmnboiaaXd
namespace Go.Proofs.Ytnbdnmfnmnboiaa
open Go.RowKit

def Wt.by (x : Wt) : List Int := [x.c, x.i0, x.i1, x.i2, x.i3, x.i4]
def Opx.by (x : Opx) : List Int := [x.c, x.i0, x.i1, x.i2, x.i3, x.i4]
structure Kw (A I : Int) (S : ES) (R : List Opx) (t : Nat) (last reg now : Int) : Prop where
  hA : S.A = A
  hI : S.I = I
  t0 : t ≤ R.length
  ws : (S.ws.filter (fun x => decide (x.c ≠ 0))).map Wt.by = (R.drop t).map Opx.by
  r0 : S.ws = [] → reg = (S.reg : Int)
  r1 : ∀ x, S.ws.getLast? = some x → x.r = (S.reg : Int)
  lt : last = -1 ∨ 0 ≤ last ∧ last ≤ now ∧ S.due = last + I
  n0 : 0 ≤ now
  n1 : now ≤ 1099511627776
theorem Kw.new (A I : Int) : Kw A I (newS A I) [] 0 (-1) 0 0 :=
  ⟨rfl, rfl, Nat.le_refl _, rfl, fun _ => rfl, fun x h => by simp [newS] at h, .inl rfl, by decide, by decide⟩
theorem Kw.time {A I : Int} {S : ES} {R : List Opx} {t : Nat} {last reg now n' : Int} (h : Kw A I S R t last reg now) (h0 : now ≤ n') (h1 : n' ≤ 1099511627776) : Kw A I S R t last reg n' :=
  ⟨h.hA, h.hI, h.t0, h.ws, h.r0, h.r1, by have := h.lt; omega, by have := h.n0; omega, h1⟩
theorem Kw.tell {A I : Int} {S : ES} {R : List Opx} {t : Nat} {last reg now : Int} (h : Kw A I S R t last reg now) (S' : ES) (x : Wt) (R' : List Opx) (h1 : S'.A = S.A) (h2 : S'.I = S.I) (h3 : S'.due = S.due) (h4 : S'.ws = S.ws ++ [x]) (h5 : x.r = (S'.reg : Int)) (hR : ((R ++ R').drop t).map Opx.by = (R.drop t).map Opx.by ++ ([x].filter (fun x => decide (x.c ≠ 0))).map Wt.by) : Kw A I S' (R ++ R') t last reg now :=
  ⟨h1.trans h.hA, h2.trans h.hI, by have := h.t0; simp; omega, by rw [h4, List.filter_append, List.map_append, h.ws, hR], fun hn => by rw [h4] at hn; simp at hn, fun y hy => by rw [h4] at hy; simp at hy; subst hy; exact h5, by rw [h3]; exact h.lt, h.n0, h.n1⟩
theorem ES.raise_code {S : ES} {c : Int} {b : Nat} (h : S.raiseC c b = 0) : c ≠ 0 := by
  unfold ES.raiseC at h
  intro hc
  rw [if_pos (.inl hc)] at h
  exact absurd h (by decide)
theorem Kw.raise {A I : Int} {S : ES} {R : List Opx} {t : Nat} {last reg now : Int} (h : Kw A I S R t last reg now) (x : Opx) (hr : S.raiseC x.c x.b = 0) : Kw A I (S.raise x.c x.b x.i0 x.i1 x.i2 x.i3 x.i4) (R ++ [x]) t last reg now := by
  have e : S.raise x.c x.b x.i0 x.i1 x.i2 x.i3 x.i4 = S.raised x.c x.b x.i0 x.i1 x.i2 x.i3 x.i4 := if_pos hr
  rw [e]
  have t0 := h.t0
  refine h.tell _ ⟨x.c, _, x.i0, x.i1, x.i2, x.i3, x.i4⟩ _ rfl rfl rfl rfl rfl ?_
  rw [List.drop_append_of_le_length t0, List.map_append]
  simp [ES.raise_code hr, Wt.by, Opx.by]
theorem Kw.noraise {A I : Int} {S : ES} {R : List Opx} {t : Nat} {last reg now : Int} (h : Kw A I S R t last reg now) (x : Opx) (hr : S.raiseC x.c x.b ≠ 0) : Kw A I (S.raise x.c x.b x.i0 x.i1 x.i2 x.i3 x.i4) R t last reg now := by
  have e : S.raise x.c x.b x.i0 x.i1 x.i2 x.i3 x.i4 = S := if_neg hr
  rw [e]; exact h
theorem Kw.clear {A I : Int} {S : ES} {R : List Opx} {t : Nat} {last reg now : Int} (h : Kw A I S R t last reg now) (c : Int) : Kw A I (S.clear c) R t last reg now := by
  unfold ES.clear
  split
  · have := h.tell (S.cleared c) ⟨0, (S.drop c).reg, 0, 0, 0, 0, 0⟩ [] rfl rfl rfl rfl rfl (by simp)
    simpa using this
  · exact h
theorem Kw.quiet {A I : Int} {S : ES} {R : List Opx} {t : Nat} {last reg now : Int} (h : Kw A I S R t last reg now) (hm : S.may now = false) : Kw A I (S.tick now) R t last reg now := by
  have e : S.tick now = S := if_neg (by rw [hm]; decide)
  rw [e]; exact h
/-- A frame is told. -/
theorem Kw.heard {A I : Int} {S : ES} {R : List Opx} {t : Nat} {last reg now : Int} (h : Kw A I S R t last reg now) (hm : S.may now = true) :
    ∃ x, S.said now = x.A A ∧ x ∈ S.ws ∧ ¬ (0 ≤ last ∧ now - last < I) ∧
      (x.c ≠ 0 → ∃ y, R[t]? = some y ∧ y.by = x.by ∧ Kw A I (S.tick now) R (t + 1) now x.r now) ∧
      (x.c = 0 → Kw A I (S.tick now) R t now x.r now) := by
  have hm' := hm
  unfold ES.may at hm'
  simp only [Bool.and_eq_true, Bool.not_eq_true', decide_eq_true_eq] at hm'
  obtain ⟨⟨hw, ht⟩, hd⟩ := hm'
  obtain ⟨n0, n1⟩ := tmB_of ht
  have e : S.tick now = S.popped now := if_pos hm
  have hI := h.hI
  cases hx : S.ws with
  | nil => rw [hx] at hw; cases hw
  | cons x l =>
    have hs : S.said now = x.A A := by
      unfold ES.said
      rw [if_pos hm, hx, ← h.hA]
    have hws := h.ws
    rw [hx] at hws
    have hr0 : l = [] → x.r = (S.reg : Int) := fun hl => h.r1 x (by rw [hx, hl]; rfl)
    have hr1 : ∀ y, l.getLast? = some y → y.r = (S.reg : Int) := fun y hy => h.r1 y (by
      rw [hx]
      cases l with
      | nil => cases hy
      | cons z l => rw [List.getLast?_cons_cons]; exact hy)
    refine ⟨x, hs, by simp, by have := h.lt; omega, fun hc => ?_, fun hc => ?_⟩
    · rw [List.filter_cons, if_pos (by simpa using hc), List.map_cons] at hws
      have hlt : t < R.length := by
        rcases Nat.lt_or_ge t R.length with hh | hh
        · exact hh
        · rw [List.drop_eq_nil_of_le hh] at hws; simp at hws
      rw [List.drop_eq_getElem_cons hlt, List.map_cons] at hws
      injection hws with q1 q2
      refine ⟨R[t], List.getElem?_eq_getElem hlt, q1.symm, ?_⟩
      rw [e]
      exact ⟨h.hA, h.hI, hlt, by show (List.map _ (List.filter _ S.ws.tail)) = _; rw [hx]; exact q2, fun hn => hr0 (by have : S.ws.tail = [] := hn; rwa [hx] at this), fun y hy => hr1 y (by have : S.ws.tail.getLast? = some y := hy; rwa [hx] at this), .inr ⟨h.n0, Int.le_refl _, by show now + S.I = _; rw [hI]⟩, h.n0, h.n1⟩
    · rw [List.filter_cons, if_neg (by simp [hc])] at hws
      rw [e]
      exact ⟨h.hA, h.hI, h.t0, by show (List.map _ (List.filter _ S.ws.tail)) = _; rw [hx]; exact hws, fun hn => hr0 (by have : S.ws.tail = [] := hn; rwa [hx] at this), fun y hy => hr1 y (by have : S.ws.tail.getLast? = some y := hy; rwa [hx] at this), .inr ⟨h.n0, Int.le_refl _, by show now + S.I = _; rw [hI]⟩, h.n0, h.n1⟩
theorem Kw.done {A I : Int} {S : ES} {R : List Opx} {t : Nat} {last reg now : Int} (h : Kw A I S R t last reg now) (hw : S.ws = []) : reg = (S.reg : Int) ∧ t = R.length := by
  refine ⟨h.r0 hw, ?_⟩
  have := h.ws
  rw [hw] at this
  have h2 := congrArg List.length this
  simp at h2
  have := h.t0
  omega
#print axioms Kw.heard
end Go.Proofs.Ytnbdnmfnmnboiaa
