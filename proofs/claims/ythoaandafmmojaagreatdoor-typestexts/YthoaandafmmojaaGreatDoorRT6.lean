/-
  The walk of the document's Text, of the kind 6.
-/
import Derived.Test.YthoaandafmmojaaGreatDoorTxt
import Derived.Test.YthoaandafmmojaaGreatDoorRqu
import Derived.Test.YthoaandafmmojaaGreatDoorRef1
namespace Go.Proofs.YthoaandafmmojaaGreatDoor
open Pl Go.RowKit

set_option maxHeartbeats 4000000 in
set_option maxRecDepth 100000 in
theorem refText_k6 (t : Int) (a : Option Addr) (len cap : Nat) (zs : List Int) (w : World) (hr : Row w a len zs) (hlc : len ≤ cap) (hcm : cap ≤ maxLen) (c0 : cbN t zs = 0) (k : kindN t = 6) :
    Calls Tryz.prog 7 #[.int .u8 t, .slice a len cap] w fun e w' => e = .returned (.tuple #[.string (str (txS t zs)), .int .i64 (txE t zs)]) ∧ Below w.heap.size w w' := by
  have hle := let_is t
  have k0 : kindN t ≠ 0 := by omega
  have HR : Hid ((letN t != 0) = true) := by show (letN t != 0) = true; rw [let_right]; simp [k0]
  have H1 : Hid (txS t zs = textN t zs) := by show _ = _; unfold txS; rw [if_neg k0, if_neg (by simp [c0])]
  have H2 : Hid (txE t zs = 0) := by show _ = _; unfold txE; rw [if_neg k0, if_neg (by simp [c0])]
  have HC : Hid (cbN t zs = 0) := c0
  obtain ⟨_, hl4, hls⟩ := cb_zero_len t zs c0
  have hs := hr.size
  have hkb := kind_bd t
  have hks := kind_size t
  have hsb := size_bd t
  have TN := textN_kind t zs
  have hb := num_bd zs hr.oct
  have P0 := plain_any t a len cap zs w hr hlc hcm
  have HP : Hid (Calls Tryz.prog 15 #[.int .u8 t, .slice a len cap] w fun e w' => e = .returned (.int .u32 0) ∧ w' = w) := by rw [c0] at P0; exact P0
  clear P0
  unfold maxLen at hcm
  have HL : Hid (letN t = 115) := hle.2.2.2.2.2.1.2 (.inl k)
  have t9 : (t == 9) = true := by
    have := type_cases t
    rcases this with rfl | rfl | rfl | rfl | rfl | rfl | rfl | rfl | rfl | rfl | rfl | rfl | rfl | rfl | rfl | rfl | rfl | rfl | ⟨h, _⟩
    all_goals first | rfl | (exfalso; revert k; decide) | omega
  have HT : Hid (strOfNums (34 :: quoL zs ++ [34]) = str (txS t zs)) := by show _ = _; rw [H1.out, TN.2.2.2.2.2.1 k, strOfNums_str]
  clear TN hks hls hb hle k k0 c0
  go_enter Tryz.func7, Tryz.ntmps7
  go_wp2_with fail
  refine (refRight_any _ _).mono ?_
  rw [HR.out]
  rintro e w ⟨rfl, rfl⟩
  go_wp2_with fail
  refine HP.out.mono ?_
  rintro e w ⟨rfl, rfl⟩
  go_wp2_with fail
  refine (refKind_any _ _).mono ?_
  rw [HL.out]
  rintro e w ⟨rfl, rfl⟩
  go_wp2_with fail
  refine (refQuoted_any _ _ _ zs _ hr (by omega)).mono ?_
  rw [HT.out]
  rintro e w1 ⟨rfl, hb1⟩
  go_wp2_with fail
  go_ret2
  exact ⟨ret_si rfl H2.out.symm, hb1⟩
end Go.Proofs.YthoaandafmmojaaGreatDoor
