/-
  The walk of the document's Text, of the kind 7.
-/
import Derived.Test.YthoaandafmmojaaGreatDoorTxt
import Derived.Test.YthoaandafmmojaaGreatDoorRqu
import Derived.Test.YthoaandafmmojaaGreatDoorRef1
namespace Go.Proofs.YthoaandafmmojaaGreatDoor
open Pl Go.RowKit

set_option maxHeartbeats 4000000 in
set_option maxRecDepth 100000 in
theorem refText_k7 (t : Int) (a : Option Addr) (len cap : Nat) (zs : List Int) (w : World) (hr : Row w a len zs) (hlc : len ≤ cap) (hcm : cap ≤ maxLen) (c0 : cbN t zs = 0) (k : kindN t = 7) :
    Calls Tryz.prog 7 #[.int .u8 t, .slice a len cap] w fun e w' => e = .returned (.tuple #[.string (str (txS t zs)), .int .i64 (txE t zs)]) ∧ Below w.heap.size w w' := by
  have hle := let_is t
  have k0 : kindN t ≠ 0 := by omega
  have HR : Hid ((letN t != 0) = true) := by show (letN t != 0) = true; rw [let_right]; simp [k0]
  have H1 : Hid (txS t zs = textN t zs) := by show _ = _; unfold txS; rw [if_neg k0, if_neg (by simp [c0])]
  have H2 : Hid (txE t zs = 0) := by show _ = _; unfold txE; rw [if_neg k0, if_neg (by simp [c0])]
  have HC : Hid (cbN t zs = 0) := c0
  obtain ⟨_, hl4, hls⟩ := cb_zero_len t zs c0
  have hs := hr.size
  have hkb := kind_bd t
  have hks := kind_size t
  have hsb := size_bd t
  have TN := textN_kind t zs
  have hb := num_bd zs hr.oct
  have P0 := plain_any t a len cap zs w hr hlc hcm
  have HP : Hid (Calls Tryz.prog 15 #[.int .u8 t, .slice a len cap] w fun e w' => e = .returned (.int .u32 0) ∧ w' = w) := by rw [c0] at P0; exact P0
  clear P0
  unfold maxLen at hcm
  have HL : Hid (letN t = 115) := hle.2.2.2.2.2.1.2 (.inr k)
  have t9 : (t == 9) = false := by
    rw [beq_eq_false_iff_ne]
    rintro rfl
    revert k; decide
  have HT : Hid (strOfNums (hexL zs) = str (txS t zs)) := by show _ = _; rw [H1.out, TN.2.2.2.2.2.2 k, strOfNums_str]
  obtain ⟨i0, hi, hz0, hz1, hz2⟩ := info_parts infoByte
  clear TN hks hls hb hle k k0 c0
  go_enter Tryz.func7, Tryz.ntmps7
  go_wp2_with fail
  refine (refRight_any _ _).mono ?_
  rw [HR.out]
  rintro e w ⟨rfl, rfl⟩
  go_wp2_with fail
  refine HP.out.mono ?_
  rintro e w ⟨rfl, rfl⟩
  go_wp2_with fail
  refine (refKind_any _ _).mono ?_
  rw [HL.out]
  rintro e w ⟨rfl, rfl⟩
  go_wp2_with fail
  go_loopw [7, 8] (fun v i wr => ∃ k : Nat, k ≤ len ∧ i = .int .i64 (k : Int) ∧ Below w.heap.size w wr ∧ wr.ownsRow w.heap.size 5 1 v (hexL (zs.take k)).length ((hexL (zs.take k)).map (Value.int .u8)))
    (fun _ i _ => len - (intOf i).toNat)
  case atStart => exact ⟨0, Nat.zero_le _, rfl, Below.refl _ _, World.ownsRow_nil _ _ _ _⟩
  case round =>
    obtain ⟨k, hk, rfl, hb, hown⟩ := hrel
    by_cases hlt : k < len
    · obtain ⟨b, off, rfl, hc⟩ := (hr.next hb).at_ (by omega)
      have hck := hc k hlt
      have ho := hr.oct.getD k
      have hx : zs.take (k + 1) = zs.take k ++ [zs.getD k 0] := by
        rw [List.take_succ_eq_append_getElem (by omega)]
        simp [List.getD_eq_getElem?_getD, show k < zs.length by omega]
      have hlt' : (k : Int) < (len : Int) := by omega
      have hn : (hexL (zs.take k)).length ≤ 10000 := by
        rw [hexL_length, List.length_take]; omega
      have X : Hid (hexL (zs.take (k + 1)) = hexL (zs.take k) ++ [hexZ (zs.getD k 0 / 16), hexZ (zs.getD k 0 % 16)]) := by
        show _ = _
        rw [hx, hexL_snoc]
      generalize zs.getD k 0 = z at *
      generalize hexL (zs.take k) = L at *
      have h1 := hexZ_bd (z / 16) (by omega) (by omega)
      have h2 := hexZ_bd (z % 16) (by omega) (by omega)
      have hoh : Oct [hexZ (z / 16), hexZ (z % 16)] := by intro n hn; simp at hn; omega
      have SC : Hid (Lib.strCells (strOfNums (hexR z 2)) = [hexZ (z / 16), hexZ (z % 16)].map (Value.int .u8)) := by show _ = _; rw [hexR_two z ho.1 ho.2]; exact strCells_nums _ hoh
      have hzw : IntKind.u64.wrap z = z := u64_wrap_id _ (by omega) (by omega)
      have hsz : (strOfNums (hexR z 2)).size = 2 := by rw [strOfNums_size, hexR_len]
      obtain ⟨s1, HS⟩ : ∃ s, Hid (strOfNums (hexR z 2) = s) := ⟨_, rfl⟩
      rw [HS.out] at SC hsz
      clear hc hx h1 h2 hoh
      go_wp2_with fail
      refine (refHex_any z 2 _ ho.1 (by omega) (by decide)).mono ?_
      rw [HS.out]
      rintro e w3 ⟨rfl, hb3⟩
      have hown3 := own_next hown hb3
      have hB3 : Below w.heap.size w w3 := Below.andThen hb hb3
      go_wp2_with (at_builtin; refine Lib.wpList_append_own_string _ rfl _ _ 22 9 rfl w.heap.size 5 i0 Tryz.underlying22 Tryz.underlying9 hi hz0 hz1 hz2 _ _ _ rfl hown3 s1 rfl (by unfold maxLen; omega) (by omega) hB3.size ?_)
      intro v4 w4 hown4 hgrow4 _
      go_wp2_with fail
      refine ⟨⟨k + 1, by omega, by go_num, hB3.grown hgrow4 hB3.size (fun j hj => (hown3.lt j hj).1), ?_⟩, by simp [intOf]; omega⟩
      rw [X.out, List.length_append, List.map_append, ← SC.out]
      simpa [Nat.add_assoc, hsz] using hown4
    · obtain rfl : k = len := by omega
      have hlt' : ¬ (k : Int) < (k : Int) := by omega
      rw [List.take_of_length_le (by omega)] at hown
      have cv := own_str hown rfl (hexL_oct zs hr.oct)
      rw [HT.out] at cv
      go_wp2_with fail
      go_ret2
      exact ⟨ret_si rfl H2.out.symm, hb⟩
end Go.Proofs.YthoaandafmmojaaGreatDoor
