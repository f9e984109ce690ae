/-
  No cell of these rows narrows 'for every input' (looked for: loops, veiled, ifaces, maps, wideKeys, modest, calm, conditions, laid).
  DERIVED. THE GIVEN ROWS OF THIS SEAT. 5 by the template 'for every input the law returns true; each argument reads behind the call as it read before'; 0 by the template 'total and deterministic' (their statements: YtdohjolgcmokhaaTotals.lean).
  GIVEN WITH THE SEED: the statements are not yours to turn. If you find one false, say at which input.
  Laid BY PROGRAM, IN A SANDBOX (cutbox-rows.mjs): the forced cells as the released guide's own fill.sh prints them over the translation 3725ecae4ddd4d03… (all of the seat's roots in one cut). By AI agents, Wed Nov 11 2026. No macro, syntax, notation, axiom, sorry.
-/
import Derived.Test.YtdohjolgcmokhaaChecked
import GoSem.Claim
import GoSem.ClaimJoined
import GoSem.ClaimMapViews
import Derived.JoinedTies
import Derived.KernelRfl
namespace Go.Proofs.Ytdohjolgcmokhaa
/- THE CELL 'sum', in the pinned program and in every row, IS THE sha256 OF THE DUMP (.gsa) THAT YtdohjolgcmokhaaProg.lean LOADS. Nothing in Lean hashes anything: it is a label: what it is worth is what the hold of that sum in a sandbox is worth. -/
noncomputable def Try.pinned : Pinned := { name := "ytdohjolgcmokhaa", sum := "3725ecae4ddd4d038d5d3918c0489f0697e87f3e7e1aa2624feeab44f92f4169", checked := Try.checked }
namespace Rows
def none {H : Type} : Left H := { results := [], args := [] }

/-- 'campanilelaw05.FlashPlays': WHATEVER THE INPUT: true; the input reads as it did. -/
def flashPlaysSpec : ChangeSpec := { name := "flashPlays", fn := fun _ => fun
  | [d1, d2] => { results := [.lit (.bool true)], args := [d1, d2] }
  | _ => none }
def flashPlaysRow : OpenClaim := { program := "ytdohjolgcmokhaa", sum := "3725ecae4ddd4d038d5d3918c0489f0697e87f3e7e1aa2624feeab44f92f4169", func := "campanile/campanilelaw05.FlashPlays", spec := "flashPlays", unfollowed := true, recurses := true, apart := false }
def FlashPlaysSaid : Prop := flashPlaysRow.holds Try.pinned (OpenSpec.ofChange flashPlaysSpec)

/-- ITS FALSE NEIGHBOUR: 'it returns false'. Refute it at one input. -/
def flashPlaysWrong : ChangeSpec := { name := "flashPlays", fn := fun _ => fun
  | [d1, d2] => { results := [.lit (.bool false)], args := [d1, d2] }
  | _ => none }
def FlashPlaysWrongFalsely : Prop := flashPlaysRow.holds Try.pinned (OpenSpec.ofChange flashPlaysWrong)

/-- 'campanilelaw05.FlashFalls': WHATEVER THE INPUT: true; the input reads as it did. -/
def flashFallsSpec : ChangeSpec := { name := "flashFalls", fn := fun _ => fun
  | [d1, d2] => { results := [.lit (.bool true)], args := [d1, d2] }
  | _ => none }
def flashFallsRow : OpenClaim := { program := "ytdohjolgcmokhaa", sum := "3725ecae4ddd4d038d5d3918c0489f0697e87f3e7e1aa2624feeab44f92f4169", func := "campanile/campanilelaw05.FlashFalls", spec := "flashFalls", unfollowed := true, recurses := true, apart := false }
def FlashFallsSaid : Prop := flashFallsRow.holds Try.pinned (OpenSpec.ofChange flashFallsSpec)

/-- ITS FALSE NEIGHBOUR: 'it returns false'. Refute it at one input. -/
def flashFallsWrong : ChangeSpec := { name := "flashFalls", fn := fun _ => fun
  | [d1, d2] => { results := [.lit (.bool false)], args := [d1, d2] }
  | _ => none }
def FlashFallsWrongFalsely : Prop := flashFallsRow.holds Try.pinned (OpenSpec.ofChange flashFallsWrong)

/-- 'campanilelaw05.FlashCuts': WHATEVER THE INPUT: true; the input reads as it did. -/
def flashCutsSpec : ChangeSpec := { name := "flashCuts", fn := fun _ => fun
  | [d1, d2, d3] => { results := [.lit (.bool true)], args := [d1, d2, d3] }
  | _ => none }
def flashCutsRow : OpenClaim := { program := "ytdohjolgcmokhaa", sum := "3725ecae4ddd4d038d5d3918c0489f0697e87f3e7e1aa2624feeab44f92f4169", func := "campanile/campanilelaw05.FlashCuts", spec := "flashCuts", unfollowed := true, recurses := true, apart := false }
def FlashCutsSaid : Prop := flashCutsRow.holds Try.pinned (OpenSpec.ofChange flashCutsSpec)

/-- ITS FALSE NEIGHBOUR: 'it returns false'. Refute it at one input. -/
def flashCutsWrong : ChangeSpec := { name := "flashCuts", fn := fun _ => fun
  | [d1, d2, d3] => { results := [.lit (.bool false)], args := [d1, d2, d3] }
  | _ => none }
def FlashCutsWrongFalsely : Prop := flashCutsRow.holds Try.pinned (OpenSpec.ofChange flashCutsWrong)

/-- 'campanilelaw05.FlashCopies': WHATEVER THE INPUT: true; the input reads as it did. -/
def flashCopiesSpec : ChangeSpec := { name := "flashCopies", fn := fun _ => fun
  | [d1, d2, d3, d4] => { results := [.lit (.bool true)], args := [d1, d2, d3, d4] }
  | _ => none }
def flashCopiesRow : OpenClaim := { program := "ytdohjolgcmokhaa", sum := "3725ecae4ddd4d038d5d3918c0489f0697e87f3e7e1aa2624feeab44f92f4169", func := "campanile/campanilelaw05.FlashCopies", spec := "flashCopies", unfollowed := true, recurses := true, apart := false }
def FlashCopiesSaid : Prop := flashCopiesRow.holds Try.pinned (OpenSpec.ofChange flashCopiesSpec)

/-- ITS FALSE NEIGHBOUR: 'it returns false'. Refute it at one input. -/
def flashCopiesWrong : ChangeSpec := { name := "flashCopies", fn := fun _ => fun
  | [d1, d2, d3, d4] => { results := [.lit (.bool false)], args := [d1, d2, d3, d4] }
  | _ => none }
def FlashCopiesWrongFalsely : Prop := flashCopiesRow.holds Try.pinned (OpenSpec.ofChange flashCopiesWrong)

/-- 'campanilelaw05.FlashKnown': WHATEVER THE INPUT: true; the input reads as it did. -/
def flashKnownSpec : ChangeSpec := { name := "flashKnown", fn := fun _ => fun
  | [] => { results := [.lit (.bool true)], args := [] }
  | _ => none }
def flashKnownRow : OpenClaim := { program := "ytdohjolgcmokhaa", sum := "3725ecae4ddd4d038d5d3918c0489f0697e87f3e7e1aa2624feeab44f92f4169", func := "campanile/campanilelaw05.FlashKnown", spec := "flashKnown", unfollowed := true, recurses := true, apart := false }
def FlashKnownSaid : Prop := flashKnownRow.holds Try.pinned (OpenSpec.ofChange flashKnownSpec)

/-- ITS FALSE NEIGHBOUR: 'it returns false'. Refute it at one input. -/
def flashKnownWrong : ChangeSpec := { name := "flashKnown", fn := fun _ => fun
  | [] => { results := [.lit (.bool false)], args := [] }
  | _ => none }
def FlashKnownWrongFalsely : Prop := flashKnownRow.holds Try.pinned (OpenSpec.ofChange flashKnownWrong)

/- THE SECOND FORM. 'bulk': how many values and letters a reading holds, each counted each time it is reached (what is shared counts as often as it is met; a slice's spare places count too). A statement '..UptoSaid' is the law's where the arguments, and the package variables that the reading takes, are together of bulk at most 1048576: NARROWER than '..Said'. Prove '..Said' where nothing that the law and all that it calls make is longer than what came in: it says more and counts as full. Else prove '..UptoSaid'. A law counts once. -/
mutual
def uptoBulk {H : Type} : DataW H → Nat
  | .lit (.string bytes) => bytes.length + 1
  | .lit _ => 1
  | .nil => 1
  | .ptr d => uptoBulk d + 1
  | .slice elems spare => uptoBulkAll elems + uptoBulkAll spare + 1
  | .agg parts => uptoBulkAll parts + 1
  | .iface _ d => uptoBulk d + 1
  | .map entries => uptoBulkEntries entries + 1
  | .held _ => 1
def uptoBulkAll {H : Type} : List (DataW H) → Nat
  | [] => 0
  | d :: r => uptoBulk d + uptoBulkAll r
def uptoBulkEntries {H : Type} : List (Lit × DataW H) → Nat
  | [] => 0
  | x :: r => uptoBulkEntry x + uptoBulkEntries r
def uptoBulkEntry {H : Type} : Lit × DataW H → Nat
  | (.string bytes, d) => bytes.length + uptoBulk d + 1
  | (_, d) => uptoBulk d + 1
 end
def uptoSmall : (H : Type) → List (DataW H) → Bool := fun _ ds => decide (uptoBulkAll ds ≤ 1048576)
def OpenSpec.upto (s : _root_.Go.ChangeSpec) : _root_.Go.OpenSpec := { _root_.Go.OpenSpec.ofChange s with cond := some uptoSmall }

/-- 'campanilelaw05.FlashPlays', WHERE WHAT IT READS IS OF BULK AT MOST 1048576: true; the input reads as it did. -/
def flashPlaysUptoRow : OpenClaim := { program := "ytdohjolgcmokhaa", sum := "3725ecae4ddd4d038d5d3918c0489f0697e87f3e7e1aa2624feeab44f92f4169", func := "campanile/campanilelaw05.FlashPlays", spec := "flashPlays", unfollowed := true, recurses := true, apart := false, narrowed := true }
def FlashPlaysUptoSaid : Prop := flashPlaysUptoRow.holds Try.pinned (OpenSpec.upto flashPlaysSpec)

/-- 'campanilelaw05.FlashFalls', WHERE WHAT IT READS IS OF BULK AT MOST 1048576: true; the input reads as it did. -/
def flashFallsUptoRow : OpenClaim := { program := "ytdohjolgcmokhaa", sum := "3725ecae4ddd4d038d5d3918c0489f0697e87f3e7e1aa2624feeab44f92f4169", func := "campanile/campanilelaw05.FlashFalls", spec := "flashFalls", unfollowed := true, recurses := true, apart := false, narrowed := true }
def FlashFallsUptoSaid : Prop := flashFallsUptoRow.holds Try.pinned (OpenSpec.upto flashFallsSpec)

/-- 'campanilelaw05.FlashCuts', WHERE WHAT IT READS IS OF BULK AT MOST 1048576: true; the input reads as it did. -/
def flashCutsUptoRow : OpenClaim := { program := "ytdohjolgcmokhaa", sum := "3725ecae4ddd4d038d5d3918c0489f0697e87f3e7e1aa2624feeab44f92f4169", func := "campanile/campanilelaw05.FlashCuts", spec := "flashCuts", unfollowed := true, recurses := true, apart := false, narrowed := true }
def FlashCutsUptoSaid : Prop := flashCutsUptoRow.holds Try.pinned (OpenSpec.upto flashCutsSpec)

/-- 'campanilelaw05.FlashCopies', WHERE WHAT IT READS IS OF BULK AT MOST 1048576: true; the input reads as it did. -/
def flashCopiesUptoRow : OpenClaim := { program := "ytdohjolgcmokhaa", sum := "3725ecae4ddd4d038d5d3918c0489f0697e87f3e7e1aa2624feeab44f92f4169", func := "campanile/campanilelaw05.FlashCopies", spec := "flashCopies", unfollowed := true, recurses := true, apart := false, narrowed := true }
def FlashCopiesUptoSaid : Prop := flashCopiesUptoRow.holds Try.pinned (OpenSpec.upto flashCopiesSpec)

/-- 'campanilelaw05.FlashKnown', WHERE WHAT IT READS IS OF BULK AT MOST 1048576: true; the input reads as it did. -/
def flashKnownUptoRow : OpenClaim := { program := "ytdohjolgcmokhaa", sum := "3725ecae4ddd4d038d5d3918c0489f0697e87f3e7e1aa2624feeab44f92f4169", func := "campanile/campanilelaw05.FlashKnown", spec := "flashKnown", unfollowed := true, recurses := true, apart := false, narrowed := true }
def FlashKnownUptoSaid : Prop := flashKnownUptoRow.holds Try.pinned (OpenSpec.upto flashKnownSpec)

end Rows
end Go.Proofs.Ytdohjolgcmokhaa
