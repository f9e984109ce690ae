/-
  Commands and bytes, there and back, of both sides.
-/
import Derived.Test.YtlnlejdjekbipaaPd
import Derived.Test.YtlnlejdjekbipaaSx
namespace Go.Proofs.Ytlnlejdjekbipaa
open Go.RowKit

theorem askP_inj (c d : Cm) (hc : c.Ok) (hd : d.Ok) (x y : B8) (h1 : askP c = some x) (h2 : askP d = some y) : decide (x = y) = decide (c = d) := by
  rw [decide_eq_decide]
  constructor
  · intro e; subst e; rw [← (ask_back c hc x h1).1, (ask_back d hd x h2).1]
  · intro e; subst e; rw [h1] at h2; exact Option.some.inj h2
theorem ansP_inj (c d : Cm) (hc : c.Ok) (hd : d.Ok) (x y : B8) (h1 : ansP c = some x) (h2 : ansP d = some y) : decide (x = y) = decide (c = d) := by
  rw [decide_eq_decide]
  constructor
  · intro e; subst e; rw [← (ans_back c hc x h1).1, (ans_back d hd x h2).1]
  · intro e; subst e; rw [h1] at h2; exact Option.some.inj h2
theorem askedP_back (c : Cm) (hc : c.Ok) (x : B8) (h : askP c = some x) : askedP x = some c := by
  unfold askedP; rw [(ask_back c hc x h).1, h, if_pos rfl]
theorem answeredP_back (c : Cm) (hc : c.Ok) (x : B8) (h : ansP c = some x) : answeredP x = some c := by
  unfold answeredP; rw [(ans_back c hc x h).1, h, if_pos rfl]
theorem askP_of (x : B8) (z : Cm) (h : askedP x = some z) : askP z = some x ∧ z = askR x := by
  unfold askedP at h
  split at h
  · rename_i hk; cases h; exact ⟨hk, rfl⟩
  · cases h
theorem ansP_of (x : B8) (z : Cm) (h : answeredP x = some z) : ansP z = some x ∧ z = ansR x := by
  unfold answeredP at h
  split at h
  · rename_i hk; cases h; exact ⟨hk, rfl⟩
  · cases h
#print axioms askP_inj
#print axioms askP_of
end Go.Proofs.Ytlnlejdjekbipaa
