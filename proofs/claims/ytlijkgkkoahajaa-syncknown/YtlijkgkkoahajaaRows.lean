/-
  No cell of these rows narrows 'for every input' (looked for: loops, veiled, ifaces, maps, wideKeys, modest, calm, conditions, laid).
  DERIVED. THE GIVEN ROWS OF THIS SEAT. 6 by the template 'for every input the law returns true; each argument reads behind the call as it read before'; 0 by the template 'total and deterministic' (their statements: YtlijkgkkoahajaaTotals.lean).
  GIVEN WITH THE SEED: the statements are not yours to turn. If you find one false, say at which input.
  Laid BY PROGRAM, IN A SANDBOX (cutbox-rows.mjs): the forced cells as the released guide's own fill.sh prints them over the translation 4222a7ee9e048eec… (all of the seat's roots in one cut). By AI agents, Wed Nov 11 2026. No macro, syntax, notation, axiom, sorry.
-/
import Derived.Test.YtlijkgkkoahajaaChecked
import GoSem.Claim
import GoSem.ClaimJoined
import GoSem.ClaimMapViews
import Derived.JoinedTies
import Derived.KernelRfl
namespace Go.Proofs.Ytlijkgkkoahajaa
/- THE CELL 'sum', in the pinned program and in every row, IS THE sha256 OF THE DUMP (.gsa) THAT YtlijkgkkoahajaaProg.lean LOADS. Nothing in Lean hashes anything: it is a label: what it is worth is what the hold of that sum in a sandbox is worth. -/
noncomputable def Try.pinned : Pinned := { name := "ytlijkgkkoahajaa", sum := "4222a7ee9e048eec714f0ade872c41f1e4ccc09daf762ba558801ffa42d5adde", checked := Try.checked }
namespace Rows
def none {H : Type} : Left H := { results := [], args := [] }

/-- 'campanilelaw15.SyncProduces': WHATEVER THE INPUT: true; the input reads as it did. -/
def syncProducesSpec : ChangeSpec := { name := "syncProduces", fn := fun _ => fun
  | [d1, d2, d3, d4] => { results := [.lit (.bool true)], args := [d1, d2, d3, d4] }
  | _ => none }
def syncProducesRow : OpenClaim := { program := "ytlijkgkkoahajaa", sum := "4222a7ee9e048eec714f0ade872c41f1e4ccc09daf762ba558801ffa42d5adde", func := "campanile/campanilelaw15.SyncProduces", spec := "syncProduces", apart := false }
def SyncProducesSaid : Prop := syncProducesRow.holds Try.pinned (OpenSpec.ofChange syncProducesSpec)

/-- ITS FALSE NEIGHBOUR: 'it returns false'. Refute it at one input. -/
def syncProducesWrong : ChangeSpec := { name := "syncProduces", fn := fun _ => fun
  | [d1, d2, d3, d4] => { results := [.lit (.bool false)], args := [d1, d2, d3, d4] }
  | _ => none }
def SyncProducesWrongFalsely : Prop := syncProducesRow.holds Try.pinned (OpenSpec.ofChange syncProducesWrong)

/-- 'campanilelaw15.SyncConsumes': WHATEVER THE INPUT: true; the input reads as it did. -/
def syncConsumesSpec : ChangeSpec := { name := "syncConsumes", fn := fun _ => fun
  | [d1, d2, d3, d4, d5] => { results := [.lit (.bool true)], args := [d1, d2, d3, d4, d5] }
  | _ => none }
def syncConsumesRow : OpenClaim := { program := "ytlijkgkkoahajaa", sum := "4222a7ee9e048eec714f0ade872c41f1e4ccc09daf762ba558801ffa42d5adde", func := "campanile/campanilelaw15.SyncConsumes", spec := "syncConsumes", unfollowed := true, recurses := true, apart := false }
def SyncConsumesSaid : Prop := syncConsumesRow.holds Try.pinned (OpenSpec.ofChange syncConsumesSpec)

/-- ITS FALSE NEIGHBOUR: 'it returns false'. Refute it at one input. -/
def syncConsumesWrong : ChangeSpec := { name := "syncConsumes", fn := fun _ => fun
  | [d1, d2, d3, d4, d5] => { results := [.lit (.bool false)], args := [d1, d2, d3, d4, d5] }
  | _ => none }
def SyncConsumesWrongFalsely : Prop := syncConsumesRow.holds Try.pinned (OpenSpec.ofChange syncConsumesWrong)

/-- 'campanilelaw15.SyncFollows': WHATEVER THE INPUT: true; the input reads as it did. -/
def syncFollowsSpec : ChangeSpec := { name := "syncFollows", fn := fun _ => fun
  | [d1, d2, d3, d4, d5, d6] => { results := [.lit (.bool true)], args := [d1, d2, d3, d4, d5, d6] }
  | _ => none }
def syncFollowsRow : OpenClaim := { program := "ytlijkgkkoahajaa", sum := "4222a7ee9e048eec714f0ade872c41f1e4ccc09daf762ba558801ffa42d5adde", func := "campanile/campanilelaw15.SyncFollows", spec := "syncFollows", unfollowed := true, recurses := true, apart := false }
def SyncFollowsSaid : Prop := syncFollowsRow.holds Try.pinned (OpenSpec.ofChange syncFollowsSpec)

/-- ITS FALSE NEIGHBOUR: 'it returns false'. Refute it at one input. -/
def syncFollowsWrong : ChangeSpec := { name := "syncFollows", fn := fun _ => fun
  | [d1, d2, d3, d4, d5, d6] => { results := [.lit (.bool false)], args := [d1, d2, d3, d4, d5, d6] }
  | _ => none }
def SyncFollowsWrongFalsely : Prop := syncFollowsRow.holds Try.pinned (OpenSpec.ofChange syncFollowsWrong)

/-- 'campanilelaw15.SyncStamps': WHATEVER THE INPUT: true; the input reads as it did. -/
def syncStampsSpec : ChangeSpec := { name := "syncStamps", fn := fun _ => fun
  | [d1, d2, d3, d4] => { results := [.lit (.bool true)], args := [d1, d2, d3, d4] }
  | _ => none }
def syncStampsRow : OpenClaim := { program := "ytlijkgkkoahajaa", sum := "4222a7ee9e048eec714f0ade872c41f1e4ccc09daf762ba558801ffa42d5adde", func := "campanile/campanilelaw15.SyncStamps", spec := "syncStamps", apart := false }
def SyncStampsSaid : Prop := syncStampsRow.holds Try.pinned (OpenSpec.ofChange syncStampsSpec)

/-- ITS FALSE NEIGHBOUR: 'it returns false'. Refute it at one input. -/
def syncStampsWrong : ChangeSpec := { name := "syncStamps", fn := fun _ => fun
  | [d1, d2, d3, d4] => { results := [.lit (.bool false)], args := [d1, d2, d3, d4] }
  | _ => none }
def SyncStampsWrongFalsely : Prop := syncStampsRow.holds Try.pinned (OpenSpec.ofChange syncStampsWrong)

/-- 'campanilelaw15.SyncClocks': WHATEVER THE INPUT: true; the input reads as it did. -/
def syncClocksSpec : ChangeSpec := { name := "syncClocks", fn := fun _ => fun
  | [d1, d2, d3, d4, d5] => { results := [.lit (.bool true)], args := [d1, d2, d3, d4, d5] }
  | _ => none }
def syncClocksRow : OpenClaim := { program := "ytlijkgkkoahajaa", sum := "4222a7ee9e048eec714f0ade872c41f1e4ccc09daf762ba558801ffa42d5adde", func := "campanile/campanilelaw15.SyncClocks", spec := "syncClocks", apart := false }
def SyncClocksSaid : Prop := syncClocksRow.holds Try.pinned (OpenSpec.ofChange syncClocksSpec)

/-- ITS FALSE NEIGHBOUR: 'it returns false'. Refute it at one input. -/
def syncClocksWrong : ChangeSpec := { name := "syncClocks", fn := fun _ => fun
  | [d1, d2, d3, d4, d5] => { results := [.lit (.bool false)], args := [d1, d2, d3, d4, d5] }
  | _ => none }
def SyncClocksWrongFalsely : Prop := syncClocksRow.holds Try.pinned (OpenSpec.ofChange syncClocksWrong)

/-- 'campanilelaw15.SyncKnown': WHATEVER THE INPUT: true; the input reads as it did. -/
def syncKnownSpec : ChangeSpec := { name := "syncKnown", fn := fun _ => fun
  | [] => { results := [.lit (.bool true)], args := [] }
  | _ => none }
def syncKnownRow : OpenClaim := { program := "ytlijkgkkoahajaa", sum := "4222a7ee9e048eec714f0ade872c41f1e4ccc09daf762ba558801ffa42d5adde", func := "campanile/campanilelaw15.SyncKnown", spec := "syncKnown", unfollowed := true, recurses := true, apart := false }
def SyncKnownSaid : Prop := syncKnownRow.holds Try.pinned (OpenSpec.ofChange syncKnownSpec)

/-- ITS FALSE NEIGHBOUR: 'it returns false'. Refute it at one input. -/
def syncKnownWrong : ChangeSpec := { name := "syncKnown", fn := fun _ => fun
  | [] => { results := [.lit (.bool false)], args := [] }
  | _ => none }
def SyncKnownWrongFalsely : Prop := syncKnownRow.holds Try.pinned (OpenSpec.ofChange syncKnownWrong)

/- THE SECOND FORM. 'bulk': how many values and letters a reading holds, each counted each time it is reached (what is shared counts as often as it is met; a slice's spare places count too). A statement '..UptoSaid' is the law's where the arguments, and the package variables that the reading takes, are together of bulk at most 1048576: NARROWER than '..Said'. Prove '..Said' where nothing that the law and all that it calls make is longer than what came in: it says more and counts as full. Else prove '..UptoSaid'. A law counts once. -/
mutual
def uptoBulk {H : Type} : DataW H → Nat
  | .lit (.string bytes) => bytes.length + 1
  | .lit _ => 1
  | .nil => 1
  | .ptr d => uptoBulk d + 1
  | .slice elems spare => uptoBulkAll elems + uptoBulkAll spare + 1
  | .agg parts => uptoBulkAll parts + 1
  | .iface _ d => uptoBulk d + 1
  | .map entries => uptoBulkEntries entries + 1
  | .held _ => 1
def uptoBulkAll {H : Type} : List (DataW H) → Nat
  | [] => 0
  | d :: r => uptoBulk d + uptoBulkAll r
def uptoBulkEntries {H : Type} : List (Lit × DataW H) → Nat
  | [] => 0
  | x :: r => uptoBulkEntry x + uptoBulkEntries r
def uptoBulkEntry {H : Type} : Lit × DataW H → Nat
  | (.string bytes, d) => bytes.length + uptoBulk d + 1
  | (_, d) => uptoBulk d + 1
 end
def uptoSmall : (H : Type) → List (DataW H) → Bool := fun _ ds => decide (uptoBulkAll ds ≤ 1048576)
def OpenSpec.upto (s : _root_.Go.ChangeSpec) : _root_.Go.OpenSpec := { _root_.Go.OpenSpec.ofChange s with cond := some uptoSmall }

/-- 'campanilelaw15.SyncProduces', WHERE WHAT IT READS IS OF BULK AT MOST 1048576: true; the input reads as it did. -/
def syncProducesUptoRow : OpenClaim := { program := "ytlijkgkkoahajaa", sum := "4222a7ee9e048eec714f0ade872c41f1e4ccc09daf762ba558801ffa42d5adde", func := "campanile/campanilelaw15.SyncProduces", spec := "syncProduces", apart := false, narrowed := true }
def SyncProducesUptoSaid : Prop := syncProducesUptoRow.holds Try.pinned (OpenSpec.upto syncProducesSpec)

/-- 'campanilelaw15.SyncConsumes', WHERE WHAT IT READS IS OF BULK AT MOST 1048576: true; the input reads as it did. -/
def syncConsumesUptoRow : OpenClaim := { program := "ytlijkgkkoahajaa", sum := "4222a7ee9e048eec714f0ade872c41f1e4ccc09daf762ba558801ffa42d5adde", func := "campanile/campanilelaw15.SyncConsumes", spec := "syncConsumes", unfollowed := true, recurses := true, apart := false, narrowed := true }
def SyncConsumesUptoSaid : Prop := syncConsumesUptoRow.holds Try.pinned (OpenSpec.upto syncConsumesSpec)

/-- 'campanilelaw15.SyncFollows', WHERE WHAT IT READS IS OF BULK AT MOST 1048576: true; the input reads as it did. -/
def syncFollowsUptoRow : OpenClaim := { program := "ytlijkgkkoahajaa", sum := "4222a7ee9e048eec714f0ade872c41f1e4ccc09daf762ba558801ffa42d5adde", func := "campanile/campanilelaw15.SyncFollows", spec := "syncFollows", unfollowed := true, recurses := true, apart := false, narrowed := true }
def SyncFollowsUptoSaid : Prop := syncFollowsUptoRow.holds Try.pinned (OpenSpec.upto syncFollowsSpec)

/-- 'campanilelaw15.SyncStamps', WHERE WHAT IT READS IS OF BULK AT MOST 1048576: true; the input reads as it did. -/
def syncStampsUptoRow : OpenClaim := { program := "ytlijkgkkoahajaa", sum := "4222a7ee9e048eec714f0ade872c41f1e4ccc09daf762ba558801ffa42d5adde", func := "campanile/campanilelaw15.SyncStamps", spec := "syncStamps", apart := false, narrowed := true }
def SyncStampsUptoSaid : Prop := syncStampsUptoRow.holds Try.pinned (OpenSpec.upto syncStampsSpec)

/-- 'campanilelaw15.SyncClocks', WHERE WHAT IT READS IS OF BULK AT MOST 1048576: true; the input reads as it did. -/
def syncClocksUptoRow : OpenClaim := { program := "ytlijkgkkoahajaa", sum := "4222a7ee9e048eec714f0ade872c41f1e4ccc09daf762ba558801ffa42d5adde", func := "campanile/campanilelaw15.SyncClocks", spec := "syncClocks", apart := false, narrowed := true }
def SyncClocksUptoSaid : Prop := syncClocksUptoRow.holds Try.pinned (OpenSpec.upto syncClocksSpec)

/-- 'campanilelaw15.SyncKnown', WHERE WHAT IT READS IS OF BULK AT MOST 1048576: true; the input reads as it did. -/
def syncKnownUptoRow : OpenClaim := { program := "ytlijkgkkoahajaa", sum := "4222a7ee9e048eec714f0ade872c41f1e4ccc09daf762ba558801ffa42d5adde", func := "campanile/campanilelaw15.SyncKnown", spec := "syncKnown", unfollowed := true, recurses := true, apart := false, narrowed := true }
def SyncKnownUptoSaid : Prop := syncKnownUptoRow.holds Try.pinned (OpenSpec.upto syncKnownSpec)

end Rows
end Go.Proofs.Ytlijkgkkoahajaa
