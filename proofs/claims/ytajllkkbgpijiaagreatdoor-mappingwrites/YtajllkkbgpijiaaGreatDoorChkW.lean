/-
  The walk of Check: why bytes are no value within bounds, any bytes of any type.
-/
import Derived.Test.YtajllkkbgpijiaaGreatDoorCompW
namespace Go.Proofs.YtajllkkbgpijiaaGreatDoor.Ty
open Pl Go.RowKit

/-- What Check tells of a value, of whether the bounds and the value have places, and of how they stand. -/
def resN (ph pl pb : Bool) (ch cl : Int) : Int := if ((ph || pl) && !pb) = true then 101253168 else if 0 < ch then 101253169 else if cl < 0 then 101253170 else 0
def chkN (t : Int) (b lo hi : List Int) : Int := if cbN t b ≠ 0 then cbN t b else resN (placeB t hi) (placeB t lo) (placeB t b) (compR t b hi) (compR t b lo)

theorem res_v (ph pl pa : Bool) (xh xl : Int) (h : ((ph || pl) && !pa) = true) : resN ph pl pa xh xl = 101253168 := by unfold resN; rw [if_pos h]
theorem res_h (ph pl pa : Bool) (xh xl : Int) (h : ((ph || pl) && !pa) = false) (h1 : 0 < xh) : resN ph pl pa xh xl = 101253169 := by unfold resN; rw [if_neg (by simp [h]), if_pos h1]
theorem res_l (ph pl pa : Bool) (xh xl : Int) (h : ((ph || pl) && !pa) = false) (h1 : ¬ 0 < xh) (h2 : xl < 0) : resN ph pl pa xh xl = 101253170 := by unfold resN; rw [if_neg (by simp [h]), if_neg h1, if_pos h2]
theorem res_0 (ph pl pa : Bool) (xh xl : Int) (h : ((ph || pl) && !pa) = false) (h1 : ¬ 0 < xh) (h2 : ¬ xl < 0) : resN ph pl pa xh xl = 0 := by unfold resN; rw [if_neg (by simp [h]), if_neg h1, if_neg h2]

theorem compR_none (t : Int) (a b : List Int) (h : placeB t b = false) : compR t a b = 0 := by unfold compR; rw [if_neg (by simp [h])]

theorem against_any (t : Int) (pt pb : Addr) (a b : Option Addr) (la ca lb cb : Nat) (za zb : List Int) (w : World) (ht : w.cell? pt = some (.int .u8 t)) (hp : w.cell? pb = some (.slice a la ca))
    (ra : Row w a la za) (rb : Row w b lb zb) (hT : Tab64 w) (hla : la ≤ ca) (hca : ca ≤ maxLen) (hlb : lb ≤ cb) (hcb : cb ≤ maxLen) :
    Calls Tryz.prog 75 #[.slice b lb cb, .pointer (some pt), .pointer (some pb)] w fun e w' => e = .returned (.tuple #[.int .i64 (compR t za zb), .bool (placeB t zb)]) ∧ Below w.heap.size w w' := by
  have old := hT.old
  have o1 := block_lt_of_cell ht
  have o2 := block_lt_of_cell hp
  by_cases pb : placeB t zb = true
  · have HA : Hid (placeB t zb = true) := pb
    clear pb
    go_enter Tryz.func75, Tryz.ntmps75
    go_wp2_with fail
    refine (hasPlace_any _ _ _ _ zb _ rb hT hlb hcb).mono ?_
    rw [HA.out]
    rintro e w1 ⟨rfl, hb1⟩
    have ht1 : w1.cell? pt = some (.int .u8 t) := by rw [hb1.cell o1]; exact ht
    have hp1 := (hb1.cell o2).trans hp
    go_wp2_with fail
    refine (compare_any _ _ _ _ _ _ _ za zb _ (ra.next hb1) (rb.next hb1) (hT.below hb1 old) hla hca hlb hcb).mono ?_
    rintro e w2 ⟨rfl, hb2⟩
    go_wp2_with fail
    go_ret2
    exact ⟨ret_ib rfl HA.out.symm, Below.andThen hb1 hb2⟩
  · have pb' : placeB t zb = false := by simpa using pb
    have HA : Hid (placeB t zb = false) := pb'
    have HR : Hid (compR t za zb = 0) := compR_none t za zb pb'
    rw [HA.out, HR.out]
    clear pb pb'
    go_enter Tryz.func75, Tryz.ntmps75
    go_wp2_with fail
    refine (hasPlace_any _ _ _ _ zb _ rb hT hlb hcb).mono ?_
    rw [HA.out]
    rintro e w1 ⟨rfl, hb1⟩
    go_wp2_with fail
    go_ret2
    exact ⟨rfl, hb1⟩

set_option maxHeartbeats 8000000 in
set_option maxRecDepth 100000 in
theorem check_any (t : Int) (a lo hi : Option Addr) (la ca ll cl lh ch : Nat) (za zl zh : List Int) (w : World) (ra : Row w a la za) (rl : Row w lo ll zl) (rh : Row w hi lh zh) (hT : Tab64 w)
    (hla : la ≤ ca) (hca : ca ≤ maxLen) (hll : ll ≤ cl) (hcl : cl ≤ maxLen) (hlh : lh ≤ ch) (hch : ch ≤ maxLen) :
    Calls Tryz.prog 57 #[.int .u8 t, .slice a la ca, .slice lo ll cl, .slice hi lh ch] w fun e w' => e = .returned (.int .u32 (chkN t za zl zh)) ∧ Below w.heap.size w w' := by
  have hmf : ∀ (fn : Fn) (first cap : Array Value) (w : World), (Instr.makeFunc fn first cap).run Tryz.prog w = .ok (.func fn first cap) w := fun _ _ _ _ => rfl
  have old := hT.old
  by_cases c0 : cbN t za = 0
  rotate_left
  · have HC : Hid (chkN t za zl zh = cbN t za) := by show chkN t za zl zh = _; unfold chkN; rw [if_pos c0]
    have bc : (cbN t za != 0) = true := by simp [c0]
    clear c0
    go_enter Tryz.func57, Tryz.ntmps57
    go_wp2_with fail
    refine (checkBytes_any _ _ _ _ za _ (ra.next (Below.al (Below.al (Below.refl _ _) _) _)) hla hca).mono ?_
    rintro e w1 ⟨rfl, rfl⟩
    go_wp2_with fail
    go_ret
    exact ⟨ret_int HC.out.symm, Below.al (Below.al (Below.refl _ _) _) _⟩
  have HC : Hid (chkN t za zl zh = resN (placeB t zh) (placeB t zl) (placeB t za) (compR t za zh) (compR t za zl)) := by show chkN t za zl zh = _; unfold chkN; rw [if_neg (by simp [c0])]
  have bc : Hid (cbN t za = 0) := c0
  clear c0
  obtain ⟨ph, HPH⟩ : ∃ ph, Hid (placeB t zh = ph) := ⟨_, rfl⟩
  obtain ⟨pl, HPL⟩ : ∃ pl, Hid (placeB t zl = pl) := ⟨_, rfl⟩
  obtain ⟨pa, HPA⟩ : ∃ pa, Hid (placeB t za = pa) := ⟨_, rfl⟩
  obtain ⟨xh, HXH⟩ : ∃ xh, Hid (compR t za zh = xh) := ⟨_, rfl⟩
  obtain ⟨xl, HXL⟩ : ∃ xl, Hid (compR t za zl = xl) := ⟨_, rfl⟩
  have HR : Hid (chkN t za zl zh = resN ph pl pa xh xl) := by show chkN t za zl zh = _; rw [HC.out, HPH.out, HPL.out, HPA.out, HXH.out, HXL.out]
  clear HC
  go_enter Tryz.func57, Tryz.ntmps57
  go_wp2_with fail
  refine (checkBytes_any _ _ _ _ za _ (ra.next (Below.al (Below.al (Below.refl _ _) _) _)) hla hca).mono ?_
  rw [bc.out]
  rintro e w1 ⟨rfl, rfl⟩
  go_wp2_with fail
  have B0 : Below w.heap.size w ((w.alloc (.cells #[.int .u8 t] 5)).alloc (.cells #[.slice a la ca] 24)) := Below.al (Below.al (Below.refl _ _) _) _
  have ct : ((w.alloc (.cells #[.int .u8 t] 5)).alloc (.cells #[.slice a la ca] 24)).cell? ⟨w.heap.size, 0, none⟩ = some (.int .u8 t) := by simp [go_sem, World.cell?_alloc_past]
  have cp : ((w.alloc (.cells #[.int .u8 t] 5)).alloc (.cells #[.slice a la ca] 24)).cell? ⟨w.heap.size + 1, 0, none⟩ = some (.slice a la ca) := by simp [go_sem]
  refine (against_any t _ _ a hi la ca lh ch za zh _ ct cp (ra.next B0) (rh.next B0) (hT.below B0 old) hla hca hlh hch).mono ?_
  rw [HXH.out, HPH.out]
  rintro e w1 ⟨rfl, hb1⟩
  have ct1 : w1.cell? ⟨w.heap.size, 0, none⟩ = some (.int .u8 t) := (hb1.cell (block_lt_of_cell ct)).trans ct
  have cp1 : w1.cell? ⟨w.heap.size + 1, 0, none⟩ = some (.slice a la ca) := (hb1.cell (block_lt_of_cell cp)).trans cp
  have B1 : Below w.heap.size w w1 := Below.andThen B0 hb1
  clear ct cp B0 hb1
  go_wp2_with fail
  refine (against_any t _ _ a lo la ca ll cl za zl _ ct1 cp1 (ra.next B1) (rl.next B1) (hT.below B1 old) hla hca hll hcl).mono ?_
  rw [HXL.out, HPL.out]
  rintro e w2 ⟨rfl, hb2⟩
  have ct2 : w2.cell? ⟨w.heap.size, 0, none⟩ = some (.int .u8 t) := (hb2.cell (block_lt_of_cell ct1)).trans ct1
  have cp2 : w2.cell? ⟨w.heap.size + 1, 0, none⟩ = some (.slice a la ca) := (hb2.cell (block_lt_of_cell cp1)).trans cp1
  have B2 : Below w.heap.size w w2 := Below.andThen B1 hb2
  clear ct1 cp1 B1 hb2
  have fin : Hid (∀ w3, Below w2.heap.size w2 w3 → Below w.heap.size w w3) := fun w3 h => Below.andThen B2 h
  have R2 : Hid (Row w2 a la za) := ra.next B2
  have T2 : Hid (Tab64 w2) := hT.below B2 old
  clear ra rl rh hT hll hcl hlh hch HPH HPL HXH HXL bc old
  by_cases hx : 0 < xh
  all_goals by_cases hy : xl < 0
  all_goals cases ph
  all_goals cases pl
  all_goals
    go_wp2_with fail
    try
      refine (hasPlace_any _ _ _ _ za _ R2.out T2.out hla hca).mono ?_
      rw [HPA.out]
      rintro e w3 ⟨rfl, hb3⟩
      cases pa
      all_goals go_wp2_with fail
    all_goals go_ret
    all_goals refine ⟨ret_int (by rw [HR.out]; first | (refine (res_v _ _ _ _ _ ?_).symm; rfl) | (refine (res_h _ _ _ _ _ ?_ ?_).symm; rfl; omega) | (refine (res_l _ _ _ _ _ ?_ ?_ ?_).symm; rfl; omega; omega) | (refine (res_0 _ _ _ _ _ ?_ ?_ ?_).symm; rfl; omega; omega)), ?_⟩
    all_goals first | exact B2 | exact fin.out _ (by assumption)
end Go.Proofs.YtajllkkbgpijiaaGreatDoor.Ty
