/-
  The walk of TypesCompare: true of any two rows of bytes of any type.
-/
import Derived.Test.YtjgficnkllmilaaGreatDoorRef3
import Derived.Test.YtjgficnkllmilaaGreatDoorWk5
namespace Go.Proofs.YtjgficnkllmilaaGreatDoor
open Pl Go.RowKit

set_option maxHeartbeats 1000000 in
set_option maxRecDepth 100000 in
theorem typesCompare_any (t : Int) (a b : Option Addr) (la ca lb cb : Nat) (za zb : List Int) (w : World) (ra : Row w a la za) (rb : Row w b lb zb) (hT : Tabs w)
    (hla : la ≤ ca) (hca : ca ≤ maxLen) (hlb : lb ≤ cb) (hcb : cb ≤ maxLen) :
    Calls Tryz.prog 5 #[.int .u8 t, .slice a la ca, .slice b lb cb] w fun e w' => e = .returned (.bool true) ∧ Below w.heap.size w w' := by
  by_cases h1 : (5000 : Int) < (la : Int)
  · go_enter Tryz.func5, Tryz.ntmps5
    go_wp2_with fail
    refine (works_any _ hT).mono ?_
    rintro e w1 ⟨rfl, hb1⟩
    go_wp2_with fail
    go_ret
    exact ⟨rfl, hb1⟩
  by_cases h2 : (5000 : Int) < (lb : Int)
  · go_enter Tryz.func5, Tryz.ntmps5
    go_wp2_with fail
    refine (works_any _ hT).mono ?_
    rintro e w1 ⟨rfl, hb1⟩
    go_wp2_with fail
    go_ret
    exact ⟨rfl, hb1⟩
  obtain ⟨x, HX⟩ : ∃ x, Hid (compR t za zb = x) := ⟨_, rfl⟩
  obtain ⟨y, HY⟩ : ∃ y, Hid (compB t za zb = y) := ⟨_, rfl⟩
  go_enter Tryz.func5, Tryz.ntmps5
  go_wp2_with fail
  refine (compare_any t a b la ca lb cb za zb _ ra rb hT.t64 hla hca hlb hcb).mono ?_
  rw [HX.out, HY.out]
  rintro e w1 ⟨rfl, hb1⟩
  go_wp2_with fail
  refine (refCompare_any t a b la ca lb cb za zb _ (ra.next hb1) (rb.next hb1) hla hca hlb hcb).mono ?_
  rw [HX.out, HY.out]
  rintro e w2 ⟨rfl, hb2⟩
  go_wp2_with fail
  refine (works_any _ ((hT.next hb1).next hb2)).mono ?_
  rintro e w3 ⟨rfl, hb3⟩
  go_wp2_with fail
  go_ret
  exact ⟨rfl, Below.andThen (Below.andThen hb1 hb2) hb3⟩

/-- A slice of bytes that came in, as the row's reading gives it. -/
def IsRow (w : World) (a : Option Addr) (len cap : Nat) (zs : List Int) : Prop :=
  (a = none ∧ len = 0 ∧ cap = 0 ∧ zs = []) ∨
  ∃ x, a = some x ∧ len ≤ cap ∧ cap ≤ maxLen ∧ zs.length = cap ∧ (∀ i, i < zs.length → w.cell? (x.add i) = some (.int .u8 (zs.getD i 0))) ∧ ∀ n ∈ zs, (Lit.int .u8 n).wf = true

theorem wf_u8 {n : Int} (h : (Lit.int .u8 n).wf = true) : 0 ≤ n ∧ n < 256 := by
  simp [Lit.wf, IntKind.min, IntKind.max, IntKind.signed, IntKind.bits] at h
  omega

theorem IsRow.row {w : World} {a : Option Addr} {len cap : Nat} {zs : List Int} (h : IsRow w a len cap zs) : Row w a len (zs.take len) ∧ len ≤ cap ∧ cap ≤ maxLen := by
  rcases h with ⟨rfl, rfl, rfl, rfl⟩ | ⟨x, rfl, hl, hm, hz, hc, hw⟩
  · exact ⟨row_nil w, Nat.le_refl _, by decide⟩
  · refine ⟨⟨by rw [List.length_take]; omega, fun n hn => wf_u8 (hw n (List.mem_of_mem_take hn)), fun hp => ?_⟩, hl, hm⟩
    obtain ⟨b, off, spot⟩ := x
    have h0 := hc 0 (by omega)
    have hs : spot = none := by simpa [Addr.add] using World.cell?_spot h0
    subst hs
    refine ⟨b, off, rfl, fun i hi => ?_⟩
    have := hc i (by omega)
    rw [show (⟨b, off, none⟩ : Addr).add i = ⟨b, off + i, none⟩ from by simp [Addr.add]] at this
    rw [this]
    simp [List.getD_eq_getElem?_getD, hi]
end Go.Proofs.YtjgficnkllmilaaGreatDoor
