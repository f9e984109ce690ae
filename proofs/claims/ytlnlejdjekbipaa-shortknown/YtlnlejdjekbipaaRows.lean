/-
  No cell of these rows narrows 'for every input' (looked for: loops, veiled, ifaces, maps, wideKeys, modest, calm, conditions, laid).
  DERIVED. THE GIVEN ROWS OF THIS SEAT. 5 by the template 'for every input the law returns true; each argument reads behind the call as it read before'; 0 by the template 'total and deterministic' (their statements: YtlnlejdjekbipaaTotals.lean).
  GIVEN WITH THE SEED: the statements are not yours to turn. If you find one false, say at which input.
  Laid BY PROGRAM, IN A SANDBOX (cutbox-rows.mjs): the forced cells as the released guide's own fill.sh prints them over the translation 4a62f546c0ea3883… (all of the seat's roots in one cut). By AI agents, Wed Nov 11 2026. No macro, syntax, notation, axiom, sorry.
-/
import Derived.Test.YtlnlejdjekbipaaChecked
import GoSem.Claim
import GoSem.ClaimJoined
import GoSem.ClaimMapViews
import Derived.JoinedTies
import Derived.KernelRfl
namespace Go.Proofs.Ytlnlejdjekbipaa
/- THE CELL 'sum', in the pinned program and in every row, IS THE sha256 OF THE DUMP (.gsa) THAT YtlnlejdjekbipaaProg.lean LOADS. Nothing in Lean hashes anything: it is a label: what it is worth is what the hold of that sum in a sandbox is worth. -/
noncomputable def Try.pinned : Pinned := { name := "ytlnlejdjekbipaa", sum := "4a62f546c0ea3883408b8c1860849747b714e4f252db171ef04436a50dd179cc", checked := Try.checked }
namespace Rows
def none {H : Type} : Left H := { results := [], args := [] }

/-- 'campanilelaw09.ShortWrites': WHATEVER THE INPUT: true; the input reads as it did. -/
def shortWritesSpec : ChangeSpec := { name := "shortWrites", fn := fun _ => fun
  | [d] => { results := [.lit (.bool true)], args := [d] }
  | _ => none }
def shortWritesRow : OpenClaim := { program := "ytlnlejdjekbipaa", sum := "4a62f546c0ea3883408b8c1860849747b714e4f252db171ef04436a50dd179cc", func := "campanile/campanilelaw09.ShortWrites", spec := "shortWrites", unfollowed := true, recurses := true, apart := false }
def ShortWritesSaid : Prop := shortWritesRow.holds Try.pinned (OpenSpec.ofChange shortWritesSpec)

/-- ITS FALSE NEIGHBOUR: 'it returns false'. Refute it at one input. -/
def shortWritesWrong : ChangeSpec := { name := "shortWrites", fn := fun _ => fun
  | [d] => { results := [.lit (.bool false)], args := [d] }
  | _ => none }
def ShortWritesWrongFalsely : Prop := shortWritesRow.holds Try.pinned (OpenSpec.ofChange shortWritesWrong)

/-- 'campanilelaw09.ShortReads': WHATEVER THE INPUT: true; the input reads as it did. -/
def shortReadsSpec : ChangeSpec := { name := "shortReads", fn := fun _ => fun
  | [d] => { results := [.lit (.bool true)], args := [d] }
  | _ => none }
def shortReadsRow : OpenClaim := { program := "ytlnlejdjekbipaa", sum := "4a62f546c0ea3883408b8c1860849747b714e4f252db171ef04436a50dd179cc", func := "campanile/campanilelaw09.ShortReads", spec := "shortReads", unfollowed := true, recurses := true, apart := false }
def ShortReadsSaid : Prop := shortReadsRow.holds Try.pinned (OpenSpec.ofChange shortReadsSpec)

/-- ITS FALSE NEIGHBOUR: 'it returns false'. Refute it at one input. -/
def shortReadsWrong : ChangeSpec := { name := "shortReads", fn := fun _ => fun
  | [d] => { results := [.lit (.bool false)], args := [d] }
  | _ => none }
def ShortReadsWrongFalsely : Prop := shortReadsRow.holds Try.pinned (OpenSpec.ofChange shortReadsWrong)

/-- 'campanilelaw09.ShortBack': WHATEVER THE INPUT: true; the input reads as it did. -/
def shortBackSpec : ChangeSpec := { name := "shortBack", fn := fun _ => fun
  | [d1, d2, d3] => { results := [.lit (.bool true)], args := [d1, d2, d3] }
  | _ => none }
def shortBackRow : OpenClaim := { program := "ytlnlejdjekbipaa", sum := "4a62f546c0ea3883408b8c1860849747b714e4f252db171ef04436a50dd179cc", func := "campanile/campanilelaw09.ShortBack", spec := "shortBack", unfollowed := true, recurses := true, apart := false }
def ShortBackSaid : Prop := shortBackRow.holds Try.pinned (OpenSpec.ofChange shortBackSpec)

/-- ITS FALSE NEIGHBOUR: 'it returns false'. Refute it at one input. -/
def shortBackWrong : ChangeSpec := { name := "shortBack", fn := fun _ => fun
  | [d1, d2, d3] => { results := [.lit (.bool false)], args := [d1, d2, d3] }
  | _ => none }
def ShortBackWrongFalsely : Prop := shortBackRow.holds Try.pinned (OpenSpec.ofChange shortBackWrong)

/-- 'campanilelaw09.ShortSegments': WHATEVER THE INPUT: true; the input reads as it did. -/
def shortSegmentsSpec : ChangeSpec := { name := "shortSegments", fn := fun _ => fun
  | [d1, d2, d3, d4] => { results := [.lit (.bool true)], args := [d1, d2, d3, d4] }
  | _ => none }
def shortSegmentsRow : OpenClaim := { program := "ytlnlejdjekbipaa", sum := "4a62f546c0ea3883408b8c1860849747b714e4f252db171ef04436a50dd179cc", func := "campanile/campanilelaw09.ShortSegments", spec := "shortSegments", unfollowed := true, recurses := true, apart := false }
def ShortSegmentsSaid : Prop := shortSegmentsRow.holds Try.pinned (OpenSpec.ofChange shortSegmentsSpec)

/-- ITS FALSE NEIGHBOUR: 'it returns false'. Refute it at one input. -/
def shortSegmentsWrong : ChangeSpec := { name := "shortSegments", fn := fun _ => fun
  | [d1, d2, d3, d4] => { results := [.lit (.bool false)], args := [d1, d2, d3, d4] }
  | _ => none }
def ShortSegmentsWrongFalsely : Prop := shortSegmentsRow.holds Try.pinned (OpenSpec.ofChange shortSegmentsWrong)

/-- 'campanilelaw09.ShortKnown': WHATEVER THE INPUT: true; the input reads as it did. -/
def shortKnownSpec : ChangeSpec := { name := "shortKnown", fn := fun _ => fun
  | [] => { results := [.lit (.bool true)], args := [] }
  | _ => none }
def shortKnownRow : OpenClaim := { program := "ytlnlejdjekbipaa", sum := "4a62f546c0ea3883408b8c1860849747b714e4f252db171ef04436a50dd179cc", func := "campanile/campanilelaw09.ShortKnown", spec := "shortKnown", unfollowed := true, recurses := true, apart := false }
def ShortKnownSaid : Prop := shortKnownRow.holds Try.pinned (OpenSpec.ofChange shortKnownSpec)

/-- ITS FALSE NEIGHBOUR: 'it returns false'. Refute it at one input. -/
def shortKnownWrong : ChangeSpec := { name := "shortKnown", fn := fun _ => fun
  | [] => { results := [.lit (.bool false)], args := [] }
  | _ => none }
def ShortKnownWrongFalsely : Prop := shortKnownRow.holds Try.pinned (OpenSpec.ofChange shortKnownWrong)

/- THE SECOND FORM. 'bulk': how many values and letters a reading holds, each counted each time it is reached (what is shared counts as often as it is met; a slice's spare places count too). A statement '..UptoSaid' is the law's where the arguments, and the package variables that the reading takes, are together of bulk at most 1048576: NARROWER than '..Said'. Prove '..Said' where nothing that the law and all that it calls make is longer than what came in: it says more and counts as full. Else prove '..UptoSaid'. A law counts once. -/
mutual
def uptoBulk {H : Type} : DataW H → Nat
  | .lit (.string bytes) => bytes.length + 1
  | .lit _ => 1
  | .nil => 1
  | .ptr d => uptoBulk d + 1
  | .slice elems spare => uptoBulkAll elems + uptoBulkAll spare + 1
  | .agg parts => uptoBulkAll parts + 1
  | .iface _ d => uptoBulk d + 1
  | .map entries => uptoBulkEntries entries + 1
  | .held _ => 1
def uptoBulkAll {H : Type} : List (DataW H) → Nat
  | [] => 0
  | d :: r => uptoBulk d + uptoBulkAll r
def uptoBulkEntries {H : Type} : List (Lit × DataW H) → Nat
  | [] => 0
  | x :: r => uptoBulkEntry x + uptoBulkEntries r
def uptoBulkEntry {H : Type} : Lit × DataW H → Nat
  | (.string bytes, d) => bytes.length + uptoBulk d + 1
  | (_, d) => uptoBulk d + 1
 end
def uptoSmall : (H : Type) → List (DataW H) → Bool := fun _ ds => decide (uptoBulkAll ds ≤ 1048576)
def OpenSpec.upto (s : _root_.Go.ChangeSpec) : _root_.Go.OpenSpec := { _root_.Go.OpenSpec.ofChange s with cond := some uptoSmall }

/-- 'campanilelaw09.ShortWrites', WHERE WHAT IT READS IS OF BULK AT MOST 1048576: true; the input reads as it did. -/
def shortWritesUptoRow : OpenClaim := { program := "ytlnlejdjekbipaa", sum := "4a62f546c0ea3883408b8c1860849747b714e4f252db171ef04436a50dd179cc", func := "campanile/campanilelaw09.ShortWrites", spec := "shortWrites", unfollowed := true, recurses := true, apart := false, narrowed := true }
def ShortWritesUptoSaid : Prop := shortWritesUptoRow.holds Try.pinned (OpenSpec.upto shortWritesSpec)

/-- 'campanilelaw09.ShortReads', WHERE WHAT IT READS IS OF BULK AT MOST 1048576: true; the input reads as it did. -/
def shortReadsUptoRow : OpenClaim := { program := "ytlnlejdjekbipaa", sum := "4a62f546c0ea3883408b8c1860849747b714e4f252db171ef04436a50dd179cc", func := "campanile/campanilelaw09.ShortReads", spec := "shortReads", unfollowed := true, recurses := true, apart := false, narrowed := true }
def ShortReadsUptoSaid : Prop := shortReadsUptoRow.holds Try.pinned (OpenSpec.upto shortReadsSpec)

/-- 'campanilelaw09.ShortBack', WHERE WHAT IT READS IS OF BULK AT MOST 1048576: true; the input reads as it did. -/
def shortBackUptoRow : OpenClaim := { program := "ytlnlejdjekbipaa", sum := "4a62f546c0ea3883408b8c1860849747b714e4f252db171ef04436a50dd179cc", func := "campanile/campanilelaw09.ShortBack", spec := "shortBack", unfollowed := true, recurses := true, apart := false, narrowed := true }
def ShortBackUptoSaid : Prop := shortBackUptoRow.holds Try.pinned (OpenSpec.upto shortBackSpec)

/-- 'campanilelaw09.ShortSegments', WHERE WHAT IT READS IS OF BULK AT MOST 1048576: true; the input reads as it did. -/
def shortSegmentsUptoRow : OpenClaim := { program := "ytlnlejdjekbipaa", sum := "4a62f546c0ea3883408b8c1860849747b714e4f252db171ef04436a50dd179cc", func := "campanile/campanilelaw09.ShortSegments", spec := "shortSegments", unfollowed := true, recurses := true, apart := false, narrowed := true }
def ShortSegmentsUptoSaid : Prop := shortSegmentsUptoRow.holds Try.pinned (OpenSpec.upto shortSegmentsSpec)

/-- 'campanilelaw09.ShortKnown', WHERE WHAT IT READS IS OF BULK AT MOST 1048576: true; the input reads as it did. -/
def shortKnownUptoRow : OpenClaim := { program := "ytlnlejdjekbipaa", sum := "4a62f546c0ea3883408b8c1860849747b714e4f252db171ef04436a50dd179cc", func := "campanile/campanilelaw09.ShortKnown", spec := "shortKnown", unfollowed := true, recurses := true, apart := false, narrowed := true }
def ShortKnownUptoSaid : Prop := shortKnownUptoRow.holds Try.pinned (OpenSpec.upto shortKnownSpec)

end Rows
end Go.Proofs.Ytlnlejdjekbipaa
