/-
  FlashCopies of any numbers and rows.
-/
import Derived.Test.YtdohjolgcmokhaaFu
namespace Go.Proofs.Ytdohjolgcmokhaa
open Go.RowKit

theorem large_not {z : Int} {len : Nat} (h : largeB z len = false) : len ≤ 200 := by
  unfold largeB at h
  rw [Bool.or_eq_false_iff] at h
  have := of_decide_eq_false h.2
  omega
theorem flashCopies_any (z : Int) (a1 : Option Addr) (n1 c1 : Nat) (a2 : Option Addr) (n2 c2 : Nat) (a3 : Option Addr) (n3 c3 : Nat) (w : World) (L1 L2 L3 : List Opv) (o1 : IsOps w a1 n1 L1) (o2 : IsOps w a2 n2 L2) (o3 : IsOps w a3 n3 L3) (k2 : n2 ≤ c2) (k3 : n3 ≤ c3) :
    Calls Try.prog 6 #[.int .i64 z, .slice a1 n1 c1, .slice a2 n2 c2, .slice a3 n3 c3] w fun e w' => e = .returned (.bool true) ∧ Below w.heap.size w w' := by
  cases h1 : largeB z n1 with
  | true => exact copiesL1 z a1 n1 c1 a2 n2 c2 a3 n3 c3 w h1
  | false =>
    cases h2 : largeB z n2 with
    | true => exact copiesL2 z a1 n1 c1 a2 n2 c2 a3 n3 c3 w h1 h2
    | false =>
      cases h3 : largeB z n3 with
      | true => exact copiesL3 z a1 n1 c1 a2 n2 c2 a3 n3 c3 w h1 h2 h3
      | false =>
        by_cases hz : z < 1 ∨ 64 < z
        · exact copiesB z a1 n1 c1 a2 n2 c2 a3 n3 c3 w h1 h2 h3 hz
        · obtain ⟨n, rfl⟩ : ∃ n : Nat, z = n := ⟨z.toNat, by omega⟩
          exact copiesG n (by omega) (by omega) a1 n1 c1 a2 n2 c2 a3 n3 c3 w L1 L2 L3 o1 o2 o3 k2 k3 (large_not h1) (large_not h2) (large_not h3) h1 h2 h3
#print axioms flashCopies_any
end Go.Proofs.Ytdohjolgcmokhaa
