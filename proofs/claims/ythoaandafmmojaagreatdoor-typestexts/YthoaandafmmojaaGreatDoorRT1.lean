/-
  The walk of the document's Text, of the kind 1.
-/
import Derived.Test.YthoaandafmmojaaGreatDoorTxt
import Derived.Test.YthoaandafmmojaaGreatDoorRqu
import Derived.Test.YthoaandafmmojaaGreatDoorRef1
namespace Go.Proofs.YthoaandafmmojaaGreatDoor
open Pl Go.RowKit

set_option maxHeartbeats 4000000 in
set_option maxRecDepth 100000 in
theorem refText_k1 (t : Int) (a : Option Addr) (len cap : Nat) (zs : List Int) (w : World) (hr : Row w a len zs) (hlc : len ≤ cap) (hcm : cap ≤ maxLen) (c0 : cbN t zs = 0) (k : kindN t = 1) :
    Calls Tryz.prog 7 #[.int .u8 t, .slice a len cap] w fun e w' => e = .returned (.tuple #[.string (str (txS t zs)), .int .i64 (txE t zs)]) ∧ Below w.heap.size w w' := by
  have hle := let_is t
  have k0 : kindN t ≠ 0 := by omega
  have HR : Hid ((letN t != 0) = true) := by show (letN t != 0) = true; rw [let_right]; simp [k0]
  have H1 : Hid (txS t zs = textN t zs) := by show _ = _; unfold txS; rw [if_neg k0, if_neg (by simp [c0])]
  have H2 : Hid (txE t zs = 0) := by show _ = _; unfold txE; rw [if_neg k0, if_neg (by simp [c0])]
  have HC : Hid (cbN t zs = 0) := c0
  obtain ⟨_, hl4, hls⟩ := cb_zero_len t zs c0
  have hs := hr.size
  have hkb := kind_bd t
  have hks := kind_size t
  have hsb := size_bd t
  have TN := textN_kind t zs
  have hb := num_bd zs hr.oct
  have P0 := plain_any t a len cap zs w hr hlc hcm
  have HP : Hid (Calls Tryz.prog 15 #[.int .u8 t, .slice a len cap] w fun e w' => e = .returned (.int .u32 0) ∧ w' = w) := by rw [c0] at P0; exact P0
  clear P0
  unfold maxLen at hcm
  have hl1 := hls (by omega)
  obtain ⟨b, off, rfl, hcell⟩ := hr.at_ (by omega)
  have hc0 := hcell 0 (by omega)
  rw [Nat.add_zero] at hc0
  have hp : (0 : Int) < (len : Int) := by omega
  have TV := TN.1 k
  have lt : letN t = 98 := hle.1.2 k
  have HL : Hid (letN t = 98) := lt
  by_cases hv : zs.getD 0 0 = 1
  · have HT : Hid (str (txS t zs) = ⟨#[116, 114, 117, 101]⟩) := by show _ = _; rw [H1.out, TV, if_pos hv]; rfl
    rw [hv] at hc0
    clear TN hks hls hb hcell TV hr hle k lt k0 c0
    go_enter Tryz.func7, Tryz.ntmps7
    go_wp2_with fail
    refine (refRight_any _ _).mono ?_
    rw [HR.out]
    rintro e w ⟨rfl, rfl⟩
    go_wp2_with fail
    refine HP.out.mono ?_
    rintro e w ⟨rfl, rfl⟩
    go_wp2_with fail
    refine (refKind_any _ _).mono ?_
    rw [HL.out]
    rintro e w ⟨rfl, rfl⟩
    go_wp2_with fail
    go_ret2
    exact ⟨ret_si HT.out.symm H2.out.symm, Below.refl _ _⟩
  · have HT : Hid (str (txS t zs) = ⟨#[102, 97, 108, 115, 101]⟩) := by show _ = _; rw [H1.out, TV, if_neg hv]; rfl
    have hvb : (zs.getD 0 0 == 1) = false := by rw [beq_eq_false_iff_ne]; exact hv
    generalize zs.getD 0 0 = z at *
    clear TN hks hls hb hcell TV hr hle k lt k0 c0 hv
    go_enter Tryz.func7, Tryz.ntmps7
    go_wp2_with fail
    refine (refRight_any _ _).mono ?_
    rw [HR.out]
    rintro e w ⟨rfl, rfl⟩
    go_wp2_with fail
    refine HP.out.mono ?_
    rintro e w ⟨rfl, rfl⟩
    go_wp2_with fail
    refine (refKind_any _ _).mono ?_
    rw [HL.out]
    rintro e w ⟨rfl, rfl⟩
    go_wp2_with fail
    go_ret2
    exact ⟨ret_si HT.out.symm H2.out.symm, Below.refl _ _⟩
end Go.Proofs.YthoaandafmmojaaGreatDoor
