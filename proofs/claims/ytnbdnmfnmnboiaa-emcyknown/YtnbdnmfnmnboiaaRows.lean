/-
  No cell of these rows narrows 'for every input' (looked for: loops, veiled, ifaces, maps, wideKeys, modest, calm, conditions, laid).
  DERIVED. THE GIVEN ROWS OF THIS SEAT. 5 by the template 'for every input the law returns true; each argument reads behind the call as it read before'; 0 by the template 'total and deterministic' (their statements: YtnbdnmfnmnboiaaTotals.lean).
  GIVEN WITH THE SEED: the statements are not yours to turn. If you find one false, say at which input.
  Laid BY PROGRAM, IN A SANDBOX (cutbox-rows.mjs): the forced cells as the released guide's own fill.sh prints them over the translation 3b675fb44376273b… (all of the seat's roots in one cut). By AI agents, Wed Nov 11 2026. No macro, syntax, notation, axiom, sorry.
-/
import Derived.Test.YtnbdnmfnmnboiaaChecked
import GoSem.Claim
import GoSem.ClaimJoined
import GoSem.ClaimMapViews
import Derived.JoinedTies
import Derived.KernelRfl
namespace Go.Proofs.Ytnbdnmfnmnboiaa
/- THE CELL 'sum', in the pinned program and in every row, IS THE sha256 OF THE DUMP (.gsa) THAT YtnbdnmfnmnboiaaProg.lean LOADS. Nothing in Lean hashes anything: it is a label: what it is worth is what the hold of that sum in a sandbox is worth. -/
noncomputable def Try.pinned : Pinned := { name := "ytnbdnmfnmnboiaa", sum := "3b675fb44376273b3a3461e0dc3333435862645616da995eb610b8dd5cd1c824", checked := Try.checked }
namespace Rows
def none {H : Type} : Left H := { results := [], args := [] }

/-- 'campanilelaw16.EmcyPlays': WHATEVER THE INPUT: true; the input reads as it did. -/
def emcyPlaysSpec : ChangeSpec := { name := "emcyPlays", fn := fun _ => fun
  | [d1, d2, d3] => { results := [.lit (.bool true)], args := [d1, d2, d3] }
  | _ => none }
def emcyPlaysRow : OpenClaim := { program := "ytnbdnmfnmnboiaa", sum := "3b675fb44376273b3a3461e0dc3333435862645616da995eb610b8dd5cd1c824", func := "campanile/campanilelaw16.EmcyPlays", spec := "emcyPlays", apart := false }
def EmcyPlaysSaid : Prop := emcyPlaysRow.holds Try.pinned (OpenSpec.ofChange emcyPlaysSpec)

/-- ITS FALSE NEIGHBOUR: 'it returns false'. Refute it at one input. -/
def emcyPlaysWrong : ChangeSpec := { name := "emcyPlays", fn := fun _ => fun
  | [d1, d2, d3] => { results := [.lit (.bool false)], args := [d1, d2, d3] }
  | _ => none }
def EmcyPlaysWrongFalsely : Prop := emcyPlaysRow.holds Try.pinned (OpenSpec.ofChange emcyPlaysWrong)

/-- 'campanilelaw16.EmcyReads': WHATEVER THE INPUT: true; the input reads as it did. -/
def emcyReadsSpec : ChangeSpec := { name := "emcyReads", fn := fun _ => fun
  | [d] => { results := [.lit (.bool true)], args := [d] }
  | _ => none }
def emcyReadsRow : OpenClaim := { program := "ytnbdnmfnmnboiaa", sum := "3b675fb44376273b3a3461e0dc3333435862645616da995eb610b8dd5cd1c824", func := "campanile/campanilelaw16.EmcyReads", spec := "emcyReads", apart := false }
def EmcyReadsSaid : Prop := emcyReadsRow.holds Try.pinned (OpenSpec.ofChange emcyReadsSpec)

/-- ITS FALSE NEIGHBOUR: 'it returns false'. Refute it at one input. -/
def emcyReadsWrong : ChangeSpec := { name := "emcyReads", fn := fun _ => fun
  | [d] => { results := [.lit (.bool false)], args := [d] }
  | _ => none }
def EmcyReadsWrongFalsely : Prop := emcyReadsRow.holds Try.pinned (OpenSpec.ofChange emcyReadsWrong)

/-- 'campanilelaw16.EmcyKnows': WHATEVER THE INPUT: true; the input reads as it did. -/
def emcyKnowsSpec : ChangeSpec := { name := "emcyKnows", fn := fun _ => fun
  | [d1, d2, d3] => { results := [.lit (.bool true)], args := [d1, d2, d3] }
  | _ => none }
def emcyKnowsRow : OpenClaim := { program := "ytnbdnmfnmnboiaa", sum := "3b675fb44376273b3a3461e0dc3333435862645616da995eb610b8dd5cd1c824", func := "campanile/campanilelaw16.EmcyKnows", spec := "emcyKnows", apart := false }
def EmcyKnowsSaid : Prop := emcyKnowsRow.holds Try.pinned (OpenSpec.ofChange emcyKnowsSpec)

/-- ITS FALSE NEIGHBOUR: 'it returns false'. Refute it at one input. -/
def emcyKnowsWrong : ChangeSpec := { name := "emcyKnows", fn := fun _ => fun
  | [d1, d2, d3] => { results := [.lit (.bool false)], args := [d1, d2, d3] }
  | _ => none }
def EmcyKnowsWrongFalsely : Prop := emcyKnowsRow.holds Try.pinned (OpenSpec.ofChange emcyKnowsWrong)

/-- 'campanilelaw16.EmcyHistory': WHATEVER THE INPUT: true; the input reads as it did. -/
def emcyHistorySpec : ChangeSpec := { name := "emcyHistory", fn := fun _ => fun
  | [d] => { results := [.lit (.bool true)], args := [d] }
  | _ => none }
def emcyHistoryRow : OpenClaim := { program := "ytnbdnmfnmnboiaa", sum := "3b675fb44376273b3a3461e0dc3333435862645616da995eb610b8dd5cd1c824", func := "campanile/campanilelaw16.EmcyHistory", spec := "emcyHistory", apart := false }
def EmcyHistorySaid : Prop := emcyHistoryRow.holds Try.pinned (OpenSpec.ofChange emcyHistorySpec)

/-- ITS FALSE NEIGHBOUR: 'it returns false'. Refute it at one input. -/
def emcyHistoryWrong : ChangeSpec := { name := "emcyHistory", fn := fun _ => fun
  | [d] => { results := [.lit (.bool false)], args := [d] }
  | _ => none }
def EmcyHistoryWrongFalsely : Prop := emcyHistoryRow.holds Try.pinned (OpenSpec.ofChange emcyHistoryWrong)

/-- 'campanilelaw16.EmcyKnown': WHATEVER THE INPUT: true; the input reads as it did. -/
def emcyKnownSpec : ChangeSpec := { name := "emcyKnown", fn := fun _ => fun
  | [] => { results := [.lit (.bool true)], args := [] }
  | _ => none }
def emcyKnownRow : OpenClaim := { program := "ytnbdnmfnmnboiaa", sum := "3b675fb44376273b3a3461e0dc3333435862645616da995eb610b8dd5cd1c824", func := "campanile/campanilelaw16.EmcyKnown", spec := "emcyKnown", apart := false }
def EmcyKnownSaid : Prop := emcyKnownRow.holds Try.pinned (OpenSpec.ofChange emcyKnownSpec)

/-- ITS FALSE NEIGHBOUR: 'it returns false'. Refute it at one input. -/
def emcyKnownWrong : ChangeSpec := { name := "emcyKnown", fn := fun _ => fun
  | [] => { results := [.lit (.bool false)], args := [] }
  | _ => none }
def EmcyKnownWrongFalsely : Prop := emcyKnownRow.holds Try.pinned (OpenSpec.ofChange emcyKnownWrong)

/- THE SECOND FORM. 'bulk': how many values and letters a reading holds, each counted each time it is reached (what is shared counts as often as it is met; a slice's spare places count too). A statement '..UptoSaid' is the law's where the arguments, and the package variables that the reading takes, are together of bulk at most 1048576: NARROWER than '..Said'. Prove '..Said' where nothing that the law and all that it calls make is longer than what came in: it says more and counts as full. Else prove '..UptoSaid'. A law counts once. -/
mutual
def uptoBulk {H : Type} : DataW H → Nat
  | .lit (.string bytes) => bytes.length + 1
  | .lit _ => 1
  | .nil => 1
  | .ptr d => uptoBulk d + 1
  | .slice elems spare => uptoBulkAll elems + uptoBulkAll spare + 1
  | .agg parts => uptoBulkAll parts + 1
  | .iface _ d => uptoBulk d + 1
  | .map entries => uptoBulkEntries entries + 1
  | .held _ => 1
def uptoBulkAll {H : Type} : List (DataW H) → Nat
  | [] => 0
  | d :: r => uptoBulk d + uptoBulkAll r
def uptoBulkEntries {H : Type} : List (Lit × DataW H) → Nat
  | [] => 0
  | x :: r => uptoBulkEntry x + uptoBulkEntries r
def uptoBulkEntry {H : Type} : Lit × DataW H → Nat
  | (.string bytes, d) => bytes.length + uptoBulk d + 1
  | (_, d) => uptoBulk d + 1
 end
def uptoSmall : (H : Type) → List (DataW H) → Bool := fun _ ds => decide (uptoBulkAll ds ≤ 1048576)
def OpenSpec.upto (s : _root_.Go.ChangeSpec) : _root_.Go.OpenSpec := { _root_.Go.OpenSpec.ofChange s with cond := some uptoSmall }

/-- 'campanilelaw16.EmcyPlays', WHERE WHAT IT READS IS OF BULK AT MOST 1048576: true; the input reads as it did. -/
def emcyPlaysUptoRow : OpenClaim := { program := "ytnbdnmfnmnboiaa", sum := "3b675fb44376273b3a3461e0dc3333435862645616da995eb610b8dd5cd1c824", func := "campanile/campanilelaw16.EmcyPlays", spec := "emcyPlays", apart := false, narrowed := true }
def EmcyPlaysUptoSaid : Prop := emcyPlaysUptoRow.holds Try.pinned (OpenSpec.upto emcyPlaysSpec)

/-- 'campanilelaw16.EmcyReads', WHERE WHAT IT READS IS OF BULK AT MOST 1048576: true; the input reads as it did. -/
def emcyReadsUptoRow : OpenClaim := { program := "ytnbdnmfnmnboiaa", sum := "3b675fb44376273b3a3461e0dc3333435862645616da995eb610b8dd5cd1c824", func := "campanile/campanilelaw16.EmcyReads", spec := "emcyReads", apart := false, narrowed := true }
def EmcyReadsUptoSaid : Prop := emcyReadsUptoRow.holds Try.pinned (OpenSpec.upto emcyReadsSpec)

/-- 'campanilelaw16.EmcyKnows', WHERE WHAT IT READS IS OF BULK AT MOST 1048576: true; the input reads as it did. -/
def emcyKnowsUptoRow : OpenClaim := { program := "ytnbdnmfnmnboiaa", sum := "3b675fb44376273b3a3461e0dc3333435862645616da995eb610b8dd5cd1c824", func := "campanile/campanilelaw16.EmcyKnows", spec := "emcyKnows", apart := false, narrowed := true }
def EmcyKnowsUptoSaid : Prop := emcyKnowsUptoRow.holds Try.pinned (OpenSpec.upto emcyKnowsSpec)

/-- 'campanilelaw16.EmcyHistory', WHERE WHAT IT READS IS OF BULK AT MOST 1048576: true; the input reads as it did. -/
def emcyHistoryUptoRow : OpenClaim := { program := "ytnbdnmfnmnboiaa", sum := "3b675fb44376273b3a3461e0dc3333435862645616da995eb610b8dd5cd1c824", func := "campanile/campanilelaw16.EmcyHistory", spec := "emcyHistory", apart := false, narrowed := true }
def EmcyHistoryUptoSaid : Prop := emcyHistoryUptoRow.holds Try.pinned (OpenSpec.upto emcyHistorySpec)

/-- 'campanilelaw16.EmcyKnown', WHERE WHAT IT READS IS OF BULK AT MOST 1048576: true; the input reads as it did. -/
def emcyKnownUptoRow : OpenClaim := { program := "ytnbdnmfnmnboiaa", sum := "3b675fb44376273b3a3461e0dc3333435862645616da995eb610b8dd5cd1c824", func := "campanile/campanilelaw16.EmcyKnown", spec := "emcyKnown", apart := false, narrowed := true }
def EmcyKnownUptoSaid : Prop := emcyKnownUptoRow.holds Try.pinned (OpenSpec.upto emcyKnownSpec)

end Rows
end Go.Proofs.Ytnbdnmfnmnboiaa
