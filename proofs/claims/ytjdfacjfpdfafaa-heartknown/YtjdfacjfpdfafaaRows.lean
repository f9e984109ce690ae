/-
  No cell of these rows narrows 'for every input' (looked for: loops, veiled, ifaces, maps, wideKeys, modest, calm, conditions, laid).
  DERIVED. THE GIVEN ROWS OF THIS SEAT. 5 by the template 'for every input the law returns true; each argument reads behind the call as it read before'; 0 by the template 'total and deterministic' (their statements: YtjdfacjfpdfafaaTotals.lean).
  GIVEN WITH THE SEED: the statements are not yours to turn. If you find one false, say at which input.
  Laid BY PROGRAM, IN A SANDBOX (cutbox-rows.mjs): the forced cells as the released guide's own fill.sh prints them over the translation bb4242aa5689aeee… (all of the seat's roots in one cut). By AI agents, Wed Nov 11 2026. No macro, syntax, notation, axiom, sorry.
-/
import Derived.Test.YtjdfacjfpdfafaaChecked
import GoSem.Claim
import GoSem.ClaimJoined
import GoSem.ClaimMapViews
import Derived.JoinedTies
import Derived.KernelRfl
namespace Go.Proofs.Ytjdfacjfpdfafaa
/- THE CELL 'sum', in the pinned program and in every row, IS THE sha256 OF THE DUMP (.gsa) THAT YtjdfacjfpdfafaaProg.lean LOADS. Nothing in Lean hashes anything: it is a label: what it is worth is what the hold of that sum in a sandbox is worth. -/
noncomputable def Try.pinned : Pinned := { name := "ytjdfacjfpdfafaa", sum := "bb4242aa5689aeee58717e18e15464d84894fcb4e2b32d706ebda9b8a96cac80", checked := Try.checked }
namespace Rows
def none {H : Type} : Left H := { results := [], args := [] }

/-- 'campanilelaw18.HeartBeats': WHATEVER THE INPUT: true; the input reads as it did. -/
def heartBeatsSpec : ChangeSpec := { name := "heartBeats", fn := fun _ => fun
  | [d1, d2] => { results := [.lit (.bool true)], args := [d1, d2] }
  | _ => none }
def heartBeatsRow : OpenClaim := { program := "ytjdfacjfpdfafaa", sum := "bb4242aa5689aeee58717e18e15464d84894fcb4e2b32d706ebda9b8a96cac80", func := "campanile/campanilelaw18.HeartBeats", spec := "heartBeats", unfollowed := true, recurses := true, apart := false }
def HeartBeatsSaid : Prop := heartBeatsRow.holds Try.pinned (OpenSpec.ofChange heartBeatsSpec)

/-- ITS FALSE NEIGHBOUR: 'it returns false'. Refute it at one input. -/
def heartBeatsWrong : ChangeSpec := { name := "heartBeats", fn := fun _ => fun
  | [d1, d2] => { results := [.lit (.bool false)], args := [d1, d2] }
  | _ => none }
def HeartBeatsWrongFalsely : Prop := heartBeatsRow.holds Try.pinned (OpenSpec.ofChange heartBeatsWrong)

/-- 'campanilelaw18.HeartWatches': WHATEVER THE INPUT: true; the input reads as it did. -/
def heartWatchesSpec : ChangeSpec := { name := "heartWatches", fn := fun _ => fun
  | [d] => { results := [.lit (.bool true)], args := [d] }
  | _ => none }
def heartWatchesRow : OpenClaim := { program := "ytjdfacjfpdfafaa", sum := "bb4242aa5689aeee58717e18e15464d84894fcb4e2b32d706ebda9b8a96cac80", func := "campanile/campanilelaw18.HeartWatches", spec := "heartWatches", unfollowed := true, recurses := true, apart := false }
def HeartWatchesSaid : Prop := heartWatchesRow.holds Try.pinned (OpenSpec.ofChange heartWatchesSpec)

/-- ITS FALSE NEIGHBOUR: 'it returns false'. Refute it at one input. -/
def heartWatchesWrong : ChangeSpec := { name := "heartWatches", fn := fun _ => fun
  | [d] => { results := [.lit (.bool false)], args := [d] }
  | _ => none }
def HeartWatchesWrongFalsely : Prop := heartWatchesRow.holds Try.pinned (OpenSpec.ofChange heartWatchesWrong)

/-- 'campanilelaw18.HeartLives': WHATEVER THE INPUT: true; the input reads as it did. -/
def heartLivesSpec : ChangeSpec := { name := "heartLives", fn := fun _ => fun
  | [d1, d2, d3, d4] => { results := [.lit (.bool true)], args := [d1, d2, d3, d4] }
  | _ => none }
def heartLivesRow : OpenClaim := { program := "ytjdfacjfpdfafaa", sum := "bb4242aa5689aeee58717e18e15464d84894fcb4e2b32d706ebda9b8a96cac80", func := "campanile/campanilelaw18.HeartLives", spec := "heartLives", unfollowed := true, recurses := true, apart := false }
def HeartLivesSaid : Prop := heartLivesRow.holds Try.pinned (OpenSpec.ofChange heartLivesSpec)

/-- ITS FALSE NEIGHBOUR: 'it returns false'. Refute it at one input. -/
def heartLivesWrong : ChangeSpec := { name := "heartLives", fn := fun _ => fun
  | [d1, d2, d3, d4] => { results := [.lit (.bool false)], args := [d1, d2, d3, d4] }
  | _ => none }
def HeartLivesWrongFalsely : Prop := heartLivesRow.holds Try.pinned (OpenSpec.ofChange heartLivesWrong)

/-- 'campanilelaw18.HeartTurns': WHATEVER THE INPUT: true; the input reads as it did. -/
def heartTurnsSpec : ChangeSpec := { name := "heartTurns", fn := fun _ => fun
  | [d] => { results := [.lit (.bool true)], args := [d] }
  | _ => none }
def heartTurnsRow : OpenClaim := { program := "ytjdfacjfpdfafaa", sum := "bb4242aa5689aeee58717e18e15464d84894fcb4e2b32d706ebda9b8a96cac80", func := "campanile/campanilelaw18.HeartTurns", spec := "heartTurns", unfollowed := true, recurses := true, apart := false }
def HeartTurnsSaid : Prop := heartTurnsRow.holds Try.pinned (OpenSpec.ofChange heartTurnsSpec)

/-- ITS FALSE NEIGHBOUR: 'it returns false'. Refute it at one input. -/
def heartTurnsWrong : ChangeSpec := { name := "heartTurns", fn := fun _ => fun
  | [d] => { results := [.lit (.bool false)], args := [d] }
  | _ => none }
def HeartTurnsWrongFalsely : Prop := heartTurnsRow.holds Try.pinned (OpenSpec.ofChange heartTurnsWrong)

/-- 'campanilelaw18.HeartKnown': WHATEVER THE INPUT: true; the input reads as it did. -/
def heartKnownSpec : ChangeSpec := { name := "heartKnown", fn := fun _ => fun
  | [] => { results := [.lit (.bool true)], args := [] }
  | _ => none }
def heartKnownRow : OpenClaim := { program := "ytjdfacjfpdfafaa", sum := "bb4242aa5689aeee58717e18e15464d84894fcb4e2b32d706ebda9b8a96cac80", func := "campanile/campanilelaw18.HeartKnown", spec := "heartKnown", unfollowed := true, recurses := true, apart := false }
def HeartKnownSaid : Prop := heartKnownRow.holds Try.pinned (OpenSpec.ofChange heartKnownSpec)

/-- ITS FALSE NEIGHBOUR: 'it returns false'. Refute it at one input. -/
def heartKnownWrong : ChangeSpec := { name := "heartKnown", fn := fun _ => fun
  | [] => { results := [.lit (.bool false)], args := [] }
  | _ => none }
def HeartKnownWrongFalsely : Prop := heartKnownRow.holds Try.pinned (OpenSpec.ofChange heartKnownWrong)

/- THE SECOND FORM. 'bulk': how many values and letters a reading holds, each counted each time it is reached (what is shared counts as often as it is met; a slice's spare places count too). A statement '..UptoSaid' is the law's where the arguments, and the package variables that the reading takes, are together of bulk at most 1048576: NARROWER than '..Said'. Prove '..Said' where nothing that the law and all that it calls make is longer than what came in: it says more and counts as full. Else prove '..UptoSaid'. A law counts once. -/
mutual
def uptoBulk {H : Type} : DataW H → Nat
  | .lit (.string bytes) => bytes.length + 1
  | .lit _ => 1
  | .nil => 1
  | .ptr d => uptoBulk d + 1
  | .slice elems spare => uptoBulkAll elems + uptoBulkAll spare + 1
  | .agg parts => uptoBulkAll parts + 1
  | .iface _ d => uptoBulk d + 1
  | .map entries => uptoBulkEntries entries + 1
  | .held _ => 1
def uptoBulkAll {H : Type} : List (DataW H) → Nat
  | [] => 0
  | d :: r => uptoBulk d + uptoBulkAll r
def uptoBulkEntries {H : Type} : List (Lit × DataW H) → Nat
  | [] => 0
  | x :: r => uptoBulkEntry x + uptoBulkEntries r
def uptoBulkEntry {H : Type} : Lit × DataW H → Nat
  | (.string bytes, d) => bytes.length + uptoBulk d + 1
  | (_, d) => uptoBulk d + 1
 end
def uptoSmall : (H : Type) → List (DataW H) → Bool := fun _ ds => decide (uptoBulkAll ds ≤ 1048576)
def OpenSpec.upto (s : _root_.Go.ChangeSpec) : _root_.Go.OpenSpec := { _root_.Go.OpenSpec.ofChange s with cond := some uptoSmall }

/-- 'campanilelaw18.HeartBeats', WHERE WHAT IT READS IS OF BULK AT MOST 1048576: true; the input reads as it did. -/
def heartBeatsUptoRow : OpenClaim := { program := "ytjdfacjfpdfafaa", sum := "bb4242aa5689aeee58717e18e15464d84894fcb4e2b32d706ebda9b8a96cac80", func := "campanile/campanilelaw18.HeartBeats", spec := "heartBeats", unfollowed := true, recurses := true, apart := false, narrowed := true }
def HeartBeatsUptoSaid : Prop := heartBeatsUptoRow.holds Try.pinned (OpenSpec.upto heartBeatsSpec)

/-- 'campanilelaw18.HeartWatches', WHERE WHAT IT READS IS OF BULK AT MOST 1048576: true; the input reads as it did. -/
def heartWatchesUptoRow : OpenClaim := { program := "ytjdfacjfpdfafaa", sum := "bb4242aa5689aeee58717e18e15464d84894fcb4e2b32d706ebda9b8a96cac80", func := "campanile/campanilelaw18.HeartWatches", spec := "heartWatches", unfollowed := true, recurses := true, apart := false, narrowed := true }
def HeartWatchesUptoSaid : Prop := heartWatchesUptoRow.holds Try.pinned (OpenSpec.upto heartWatchesSpec)

/-- 'campanilelaw18.HeartLives', WHERE WHAT IT READS IS OF BULK AT MOST 1048576: true; the input reads as it did. -/
def heartLivesUptoRow : OpenClaim := { program := "ytjdfacjfpdfafaa", sum := "bb4242aa5689aeee58717e18e15464d84894fcb4e2b32d706ebda9b8a96cac80", func := "campanile/campanilelaw18.HeartLives", spec := "heartLives", unfollowed := true, recurses := true, apart := false, narrowed := true }
def HeartLivesUptoSaid : Prop := heartLivesUptoRow.holds Try.pinned (OpenSpec.upto heartLivesSpec)

/-- 'campanilelaw18.HeartTurns', WHERE WHAT IT READS IS OF BULK AT MOST 1048576: true; the input reads as it did. -/
def heartTurnsUptoRow : OpenClaim := { program := "ytjdfacjfpdfafaa", sum := "bb4242aa5689aeee58717e18e15464d84894fcb4e2b32d706ebda9b8a96cac80", func := "campanile/campanilelaw18.HeartTurns", spec := "heartTurns", unfollowed := true, recurses := true, apart := false, narrowed := true }
def HeartTurnsUptoSaid : Prop := heartTurnsUptoRow.holds Try.pinned (OpenSpec.upto heartTurnsSpec)

/-- 'campanilelaw18.HeartKnown', WHERE WHAT IT READS IS OF BULK AT MOST 1048576: true; the input reads as it did. -/
def heartKnownUptoRow : OpenClaim := { program := "ytjdfacjfpdfafaa", sum := "bb4242aa5689aeee58717e18e15464d84894fcb4e2b32d706ebda9b8a96cac80", func := "campanile/campanilelaw18.HeartKnown", spec := "heartKnown", unfollowed := true, recurses := true, apart := false, narrowed := true }
def HeartKnownUptoSaid : Prop := heartKnownUptoRow.holds Try.pinned (OpenSpec.upto heartKnownSpec)

end Rows
end Go.Proofs.Ytjdfacjfpdfafaa
