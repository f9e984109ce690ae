/-
  The walk of TypesOrder: true of any three rows of bytes of any type.
-/
import Derived.Test.YtdmpmihhkfmdiaaDoorOrdF
import Derived.Test.YtdmpmihhkfmdiaaDoorLent
import Derived.Test.YtdmpmihhkfmdiaaDoorIsR
namespace Go.Proofs.YtdmpmihhkfmdiaaDoor
open Pl Go.RowKit

set_option maxHeartbeats 4000000 in
set_option maxRecDepth 100000 in
theorem typesOrder_any (t : Int) (a b d : Option Addr) (la ca lb cb ld cd : Nat) (za zb zd : List Int) (w : World) (ra : Row w a la za) (rb : Row w b lb zb) (rd : Row w d ld zd) (hT : Tabs w)
    (hla : la ≤ ca) (hca : ca ≤ maxLen) (hlb : lb ≤ cb) (hcb : cb ≤ maxLen) (hld : ld ≤ cd) (hcd : cd ≤ maxLen) :
    Calls Tryd.prog 3 #[.int .u8 t, .slice a la ca, .slice b lb cb, .slice d ld cd] w fun e w' => e = .returned (.bool true) ∧ Below w.heap.size w w' := by
  by_cases h1 : (5000 : Int) < (la : Int)
  · go_enter Tryd.func3, Tryd.ntmps3
    go_wp2_with fail
    refine (works_any _ hT).mono ?_
    rintro e w1 ⟨rfl, hb1⟩
    go_wp2_with fail
    go_ret
    exact ⟨rfl, hb1⟩
  by_cases h2 : (5000 : Int) < (lb : Int)
  · go_enter Tryd.func3, Tryd.ntmps3
    go_wp2_with fail
    refine (works_any _ hT).mono ?_
    rintro e w1 ⟨rfl, hb1⟩
    go_wp2_with fail
    go_ret
    exact ⟨rfl, hb1⟩
  by_cases h3 : (5000 : Int) < (ld : Int)
  · go_enter Tryd.func3, Tryd.ntmps3
    go_wp2_with fail
    refine (works_any _ hT).mono ?_
    rintro e w1 ⟨rfl, hb1⟩
    go_wp2_with fail
    go_ret
    exact ⟨rfl, hb1⟩
  have VX := compR_vals t za zb ra.oct rb.oct
  have NX := compR_none' t za zb
  have VZ := compR_vals t zb zd rb.oct rd.oct
  have TR := comp_trans t za zb zd
  have SN : za ≠ zb → ((strOfNums za).toList == (strOfNums zb).toList) = false := str_unlike za zb ra.oct rb.oct
  obtain ⟨x, HX⟩ : ∃ x, Hid (compR t za zb = x) := ⟨_, rfl⟩
  obtain ⟨ok, HO⟩ : ∃ x, Hid (compB t za zb = x) := ⟨_, rfl⟩
  obtain ⟨z, HZ⟩ : ∃ x, Hid (compR t zb zd = x) := ⟨_, rfl⟩
  obtain ⟨fine, HF⟩ : ∃ x, Hid (compB t zb zd = x) := ⟨_, rfl⟩
  obtain ⟨u, HU⟩ : ∃ x, Hid (compR t za zd = x) := ⟨_, rfl⟩
  obtain ⟨good, HG⟩ : ∃ x, Hid (compB t za zd = x) := ⟨_, rfl⟩
  obtain ⟨y, HY⟩ : ∃ x, Hid (compR t zb za = x) := ⟨_, rfl⟩
  have hy : y = -x := by rw [← HY.out, compR_sym, HX.out]
  have HO' : Hid (compB t zb za = ok) := by show compB t zb za = ok; rw [compB_sym, HO.out]
  rw [HX.out, HO.out] at VX NX
  rw [HZ.out, HF.out] at VZ
  rw [HX.out, HO.out, HZ.out, HF.out, HU.out, HG.out] at TR
  have K1 : (ok = false ∧ x = 0 ∧ y = 0) ∨ (ok = true ∧ x = -1 ∧ y = 1 ∧ ((strOfNums za).toList == (strOfNums zb).toList) = false) ∨ (ok = true ∧ x = 0 ∧ y = 0 ∧ zb = za) ∨ (ok = true ∧ x = 1 ∧ y = -1 ∧ ((strOfNums za).toList == (strOfNums zb).toList) = false) := by
    cases ok with
    | false => have := NX rfl; exact .inl ⟨rfl, this, by omega⟩
    | true =>
      rcases VX rfl with ⟨h, hn⟩ | ⟨h, hn⟩ | ⟨h, hn⟩
      · exact .inr (.inl ⟨rfl, h, by omega, SN hn⟩)
      · exact .inr (.inr (.inl ⟨rfl, h, by omega, hn.symm⟩))
      · exact .inr (.inr (.inr ⟨rfl, h, by omega, SN hn⟩))
  have K2 : Hid (ok = true → (fine = false) ∨ (fine = true ∧ good = true ∧ ((z = -1 ∧ (x ≤ 0 → ¬ 0 < u) ∧ (x < 0 → ¬ 0 ≤ u)) ∨ (z = 0 ∧ (x ≤ 0 → ¬ 0 < u)) ∨ z = 1))) := by
    intro ho
    cases fine with
    | false => exact .inl rfl
    | true =>
      obtain ⟨hg, t1, t2⟩ := TR ho rfl
      refine .inr ⟨rfl, hg, ?_⟩
      rcases VZ rfl with ⟨h, _⟩ | ⟨h, _⟩ | ⟨h, _⟩
      · exact .inl ⟨h, by omega, by omega⟩
      · exact .inr (.inl ⟨h, by omega⟩)
      · exact .inr (.inr h)
  clear VX NX VZ TR SN hy
  go_enter Tryd.func3, Tryd.ntmps3
  go_wp2_with fail
  refine (compare_any t a b la ca lb cb za zb _ ra rb hT.t64 hla hca hlb hcb).mono ?_
  rw [HX.out, HO.out]
  rintro e w1 ⟨rfl, hb1⟩
  go_wp2_with fail
  refine (compare_any t b a lb cb la ca zb za _ (rb.next hb1) (ra.next hb1) (hT.next hb1).t64 hlb hcb hla hca).mono ?_
  rw [HY.out, HO'.out]
  rintro e w2 ⟨rfl, hb2⟩
  have B2 : Below w.heap.size w w2 := Below.andThen hb1 hb2
  have s1 := (ra.next B2).str' ca
  have s2 := (rb.next B2).str' cb
  have R1 : Hid (Row w2 a la za) := ra.next B2
  have R2 : Hid (Row w2 b lb zb) := rb.next B2
  have R3 : Hid (Row w2 d ld zd) := rd.next B2
  have T2 : Hid (Tabs w2) := hT.next B2
  clear hb1 hb2 HX HO HY HO' ra rb rd hT
  rcases K1 with ⟨rfl, rfl, rfl⟩ | ⟨rfl, rfl, rfl, hne⟩ | ⟨rfl, rfl, rfl, hz⟩ | ⟨rfl, rfl, rfl, hne⟩
  rotate_left 2
  · rw [hz] at s2
    have K3 : Hid _ := K2.out rfl
    clear K2
    go_wp2_with fail
    refine (compare_any t b d lb cb ld cd zb zd _ R2.out R3.out T2.out.t64 hlb hcb hld hcd).mono ?_
    rw [HZ.out, HF.out]
    rintro e w3 ⟨rfl, hb3⟩
    go_wp2_with fail
    refine (compare_any t a d la ca ld cd za zd _ (R1.out.next hb3) (R3.out.next hb3) (T2.out.next hb3).t64 hla hca hld hcd).mono ?_
    rw [HU.out, HG.out]
    rintro e w4 ⟨rfl, hb4⟩
    have T4 := (T2.out.next hb3).next hb4
    have B4 : Below w.heap.size w w4 := Below.andThen B2 (Below.andThen hb3 hb4)
    clear hb3 hb4 B2 R1 R2 R3 T2 HZ HF HU HG s1 s2
    rcases K3.out with rfl | ⟨rfl, rfl, ⟨rfl, h1, h2⟩ | ⟨rfl, h1⟩ | rfl⟩
    all_goals clear K3
    rotate_left
    · have g1 := h1 (by decide)
      clear h1 h2
      go_wp2_with fail
      refine (works_any _ T4).mono ?_
      rintro e w5 ⟨rfl, hb5⟩
      go_wp2_with fail
      go_ret
      exact ⟨rfl, Below.andThen B4 hb5⟩
    · have g1 := h1 (by decide)
      clear h1
      go_wp2_with fail
      refine (works_any _ T4).mono ?_
      rintro e w5 ⟨rfl, hb5⟩
      go_wp2_with fail
      go_ret
      exact ⟨rfl, Below.andThen B4 hb5⟩
    all_goals
      go_wp2_with fail
      refine (works_any _ T4).mono ?_
      rintro e w5 ⟨rfl, hb5⟩
      go_wp2_with fail
      go_ret
      exact ⟨rfl, Below.andThen B4 hb5⟩
  · have K3 : Hid _ := K2.out rfl
    clear K2
    go_wp2_with fail
    refine (compare_any t b d lb cb ld cd zb zd _ R2.out R3.out T2.out.t64 hlb hcb hld hcd).mono ?_
    rw [HZ.out, HF.out]
    rintro e w3 ⟨rfl, hb3⟩
    go_wp2_with fail
    refine (compare_any t a d la ca ld cd za zd _ (R1.out.next hb3) (R3.out.next hb3) (T2.out.next hb3).t64 hla hca hld hcd).mono ?_
    rw [HU.out, HG.out]
    rintro e w4 ⟨rfl, hb4⟩
    have T4 := (T2.out.next hb3).next hb4
    have B4 : Below w.heap.size w w4 := Below.andThen B2 (Below.andThen hb3 hb4)
    clear hb3 hb4 B2 R1 R2 R3 T2 HZ HF HU HG s1 s2
    rcases K3.out with rfl | ⟨rfl, rfl, ⟨rfl, h1, h2⟩ | ⟨rfl, h1⟩ | rfl⟩
    all_goals clear K3
    rotate_left
    · clear h1 h2
      go_wp2_with fail
      refine (works_any _ T4).mono ?_
      rintro e w5 ⟨rfl, hb5⟩
      go_wp2_with fail
      go_ret
      exact ⟨rfl, Below.andThen B4 hb5⟩
    · clear h1
      go_wp2_with fail
      refine (works_any _ T4).mono ?_
      rintro e w5 ⟨rfl, hb5⟩
      go_wp2_with fail
      go_ret
      exact ⟨rfl, Below.andThen B4 hb5⟩
    all_goals
      go_wp2_with fail
      refine (works_any _ T4).mono ?_
      rintro e w5 ⟨rfl, hb5⟩
      go_wp2_with fail
      go_ret
      exact ⟨rfl, Below.andThen B4 hb5⟩
  · clear K2
    go_wp2_with fail
    refine (compare_any t b d lb cb ld cd zb zd _ R2.out R3.out T2.out.t64 hlb hcb hld hcd).mono ?_
    rw [HZ.out, HF.out]
    rintro e w3 ⟨rfl, hb3⟩
    go_wp2_with fail
    refine (compare_any t a d la ca ld cd za zd _ (R1.out.next hb3) (R3.out.next hb3) (T2.out.next hb3).t64 hla hca hld hcd).mono ?_
    rw [HU.out, HG.out]
    rintro e w4 ⟨rfl, hb4⟩
    have T4 := (T2.out.next hb3).next hb4
    have B4 : Below w.heap.size w w4 := Below.andThen B2 (Below.andThen hb3 hb4)
    clear hb3 hb4 B2 R1 R2 R3 T2 HZ HF HU HG s1 s2
    go_wp2_with fail
    refine (works_any _ T4).mono ?_
    rintro e w5 ⟨rfl, hb5⟩
    go_wp2_with fail
    go_ret
    exact ⟨rfl, Below.andThen B4 hb5⟩
  · have K3 : Hid _ := K2.out rfl
    clear K2
    go_wp2_with fail
    refine (compare_any t b d lb cb ld cd zb zd _ R2.out R3.out T2.out.t64 hlb hcb hld hcd).mono ?_
    rw [HZ.out, HF.out]
    rintro e w3 ⟨rfl, hb3⟩
    go_wp2_with fail
    refine (compare_any t a d la ca ld cd za zd _ (R1.out.next hb3) (R3.out.next hb3) (T2.out.next hb3).t64 hla hca hld hcd).mono ?_
    rw [HU.out, HG.out]
    rintro e w4 ⟨rfl, hb4⟩
    have T4 := (T2.out.next hb3).next hb4
    have B4 : Below w.heap.size w w4 := Below.andThen B2 (Below.andThen hb3 hb4)
    clear hb3 hb4 B2 R1 R2 R3 T2 HZ HF HU HG s1 s2
    rcases K3.out with rfl | ⟨rfl, rfl, ⟨rfl, h1, h2⟩ | ⟨rfl, h1⟩ | rfl⟩
    all_goals clear K3
    rotate_left
    · have g1 := h1 (by decide)
      have g2 := h2 (by decide)
      clear h1 h2
      go_wp2_with fail
      refine (works_any _ T4).mono ?_
      rintro e w5 ⟨rfl, hb5⟩
      go_wp2_with fail
      go_ret
      exact ⟨rfl, Below.andThen B4 hb5⟩
    · have g1 := h1 (by decide)
      clear h1
      go_wp2_with fail
      refine (works_any _ T4).mono ?_
      rintro e w5 ⟨rfl, hb5⟩
      go_wp2_with fail
      go_ret
      exact ⟨rfl, Below.andThen B4 hb5⟩
    all_goals
      go_wp2_with fail
      refine (works_any _ T4).mono ?_
      rintro e w5 ⟨rfl, hb5⟩
      go_wp2_with fail
      go_ret
      exact ⟨rfl, Below.andThen B4 hb5⟩
#print axioms typesOrder_any
end Go.Proofs.YtdmpmihhkfmdiaaDoor
