/-
  The walk of TypesBack: true of any type, bytes and text.
-/
import Derived.Test.YtndogfemnpgfoaaDoorVb
import Derived.Test.YtndogfemnpgfoaaDoorChkW
import Derived.Test.YtndogfemnpgfoaaDoorLent
namespace Go.Proofs.YtndogfemnpgfoaaDoor
open Pl Go.RowKit

theorem place_nil (t : Int) : placeB t [] = false := by
  have ks := kind_size t
  have kb := kind_bd t
  unfold placeB
  by_cases h6 : kindN t = 6
  · simp [h6]
  by_cases h7 : kindN t = 7
  · simp [h7]
  have hc : cbN t [] ≠ 0 := by
    intro h
    obtain ⟨k0, _, hs, _⟩ := cb_facts t [] h
    have h1 := ks.2.2.2.2.2.2 (by omega) (by omega)
    have := hs h1
    simp at this
    omega
  simp [hc]
theorem chk_nil (t : Int) (zs : List Int) : chkN t zs [] [] = cbN t zs := by
  unfold chkN
  by_cases h : cbN t zs = 0
  · rw [if_neg (by simp [h]), place_nil, compR_none t zs [] (place_nil t), h]
    exact res_0 _ _ _ _ _ (by simp) (by decide) (by decide)
  · rw [if_pos h]
theorem tx_ok (t : Int) (zs : List Int) (h : cbN t zs = 0) : txS t zs = textN t zs ∧ txE t zs = 0 := by
  have k0 := (cb_facts t zs h).1
  unfold txS txE
  rw [if_neg k0, if_neg (by simp [h]), if_neg k0, if_neg (by simp [h])]
  exact ⟨rfl, rfl⟩
theorem tx_bad (t : Int) (zs : List Int) (h : cbN t zs ≠ 0) : txE t zs ≠ 0 := by
  unfold txE
  by_cases k : kindN t = 0
  · rw [if_pos k]; decide
  · rw [if_neg k, if_pos h]; decide

theorem oddS_len (m : Nat) (e : Int) (hm : m < 18446744073709551616) (h0 : -20000 ≤ e) (h1 : e ≤ 20000) : (oddS m e).length ≤ 50 := by
  unfold oddS
  have hz : Lib.ctz 64 m ≤ 64 := by
    by_cases h : m = 0
    · unfold Lib.ctz; rw [if_pos h]; exact Nat.le_refl _
    · exact Nat.le_of_lt (odd_parts m h hm).2.2
  have d1 := dec_length (m / 2 ^ Lib.ctz 64 m) (Nat.lt_of_le_of_lt (Nat.div_le_self _ _) hm)
  have d2 := itoa_length (e + (Lib.ctz 64 m : Int)) (by omega) (by omega)
  simp
  omega
theorem sizeS_length (R : Nat) (h : R < 9223372036854775808) : (sizeS R).length ≤ 50 := by
  unfold sizeS
  split
  · decide
  split
  · decide
  split
  · exact oddS_len _ _ (by omega) (by decide) (by decide)
  · exact oddS_len _ _ (by omega) (by omega) (by omega)
theorem sizeS32_length (R : Nat) (h : R < 2147483648) : (sizeS32 R).length ≤ 50 := by
  unfold sizeS32
  split
  · decide
  split
  · decide
  split
  · exact oddS_len _ _ (by omega) (by decide) (by decide)
  · exact oddS_len _ _ (by omega) (by omega) (by omega)
theorem textN_len (t : Int) (zs : List Int) (ho : Oct zs) (hc : cbN t zs = 0) : (textN t zs).length ≤ 1000000 := by
  obtain ⟨k0, hl, hs, _⟩ := cb_facts t zs hc
  have kb := kind_bd t
  have ks := kind_size t
  have hb := num_bd zs ho
  unfold textN
  by_cases k1 : kindN t = 1
  · rw [if_pos k1]; split <;> decide
  rw [if_neg k1]
  have sb := size_bd t
  by_cases k2 : kindN t = 2
  · rw [if_pos k2]
    have hz := int_sizes t (.inl k2)
    have hls := hs (by omega)
    have := sgN_bd zs.length (num zs) (by omega) (by omega) hb.1 hb.2
    have := itoa_length _ this.1 this.2
    omega
  rw [if_neg k2]
  by_cases k3 : kindN t = 3
  · rw [if_pos k3]
    have hz := int_sizes t (.inr k3)
    have hls := hs (by omega)
    have := num_lt64 zs ho (by omega)
    have := dec_length (num zs).toNat (by omega)
    omega
  rw [if_neg k3]
  by_cases k4 : kindN t = 4
  · rw [if_pos k4]
    rcases float_types t k4 with ⟨rfl, h4⟩ | ⟨rfl, h8⟩
    · rw [if_neg (by decide)]
      have hls := hs (by omega)
      unfold rf32
      have := sizeS32_length ((num zs).toNat % 2147483648) (Nat.mod_lt _ (by decide))
      split
      · rw [List.length_append, byteL_len, hexL_length, List.length_reverse]
        show 4 + 2 * zs.length ≤ _
        omega
      split
      · rw [List.length_cons]; omega
      · omega
    · rw [if_pos rfl]
      have hls := hs (by omega)
      unfold rf64
      have := sizeS_length ((num zs).toNat % 9223372036854775808) (Nat.mod_lt _ (by decide))
      split
      · rw [List.length_append, byteL_len, hexL_length, List.length_reverse]
        show 4 + 2 * zs.length ≤ _
        omega
      split
      · rw [List.length_cons]; omega
      · omega
  rw [if_neg k4]
  by_cases k5 : kindN t = 5
  · rw [if_pos k5]
    have h6 := ks.2.2.1 k5
    have hls := hs (by omega)
    have a1 := num_lt64 _ (ho.take 4) (by rw [List.length_take]; omega)
    have a2 := num_lt64 _ (ho.drop 4) (by rw [List.length_drop]; omega)
    have b1 := dec_length (num (zs.take 4)).toNat (by omega)
    have b2 := dec_length (num (zs.drop 4)).toNat (by omega)
    simp
    omega
  rw [if_neg k5]
  by_cases k6 : kindN t = 6
  · rw [if_pos k6, byteL_len]
    have := quoL_len zs
    simp
    omega
  · rw [if_neg k6, byteL_len, hexL_length]
    omega

set_option maxHeartbeats 4000000 in
set_option maxRecDepth 100000 in
theorem back_An (t : Int) (a : Option Addr) (la ca : Nat) (za : List Int) (l : List UInt8) (w : World) (ra : Row w a la za) (hT : Tabs w) (hla : la ≤ ca) (hca : ca ≤ maxLen) (h1 : la ≤ 5000) (h2 : l.length ≤ 20000) (hc : cbN t za = 0) (hk : kindN t ≠ 0) (hv : valN t l = none) :
    Calls Tryd.prog 3 #[.int .u8 t, .slice a la ca, .string (str l)] w fun e w' => e = .returned (.bool true) ∧ Below w.heap.size w w' := by
  have g1 : ¬ (5000 : Int) < (la : Int) := by omega
  have g2 : ¬ (20000 : Int) < (l.length : Int) := by omega
  have ho := ra.oct
  obtain ⟨sl, HSL, _, hsz, _⟩ := str_facts l
  obtain ⟨tx1, tx2⟩ := tx_ok t za hc
  have k0 := (cb_facts t za hc).1
  have VT := fun w hT => value_any t (textN t za) w k0 (textN_len t za ho hc) hT
  rw [val_text t za ho hc] at VT
  have TX := fun w a ca ra hT h1 h2 => text_any t a la ca za w ra hT h1 h2
  rw [tx1, tx2] at TX
  have CK := fun w a ra hT h1 h2 => check_any t a none none la ca 0 0 0 0 za [] [] w ra (row_nil _) (row_nil _) hT h1 h2 (Nat.le_refl _) (by decide) (Nat.le_refl _) (by decide)
  rw [chk_nil, hc] at CK
  obtain ⟨st, HST⟩ : ∃ s, Hid (str (textN t za) = s) := ⟨_, rfl⟩
  rw [HST.out] at VT TX
  have VS := fun w hT => value_any t l w hk (by omega) hT
  rw [hv] at VS
  rw [HSL.out] at VS ⊢
  clear HSL HST tx1 tx2 k0 hc ho hv
  go_enter Tryd.func3, Tryd.ntmps3
  go_wp2_with fail
  refine (TX _ _ _ ra hT hla hca).mono ?_
  rintro e w1 ⟨rfl, B1⟩
  go_wp2_with fail
  refine (CK _ _ (ra.next B1) (hT.next B1).t64 hla hca).mono ?_
  rintro e w2 ⟨rfl, b2⟩
  have B2 : Below w.heap.size w w2 := Below.andThen B1 b2
  clear b2 B1
  go_wp2_with fail
  refine (VT _ (hT.next B2)).mono ?_
  rintro e w3 ⟨⟨x, lx, cx, rfl, ht⟩, b3⟩
  have B3 : Below w.heap.size w w3 := Below.andThen B2 b3
  have s1 := ht.row.str' cx
  have s2 := (ra.next B3).str' ca
  clear b3 B2 ht
  go_wp2_with fail
  refine (VS _ (hT.next B3)).mono ?_
  rintro e w4 ⟨rfl, b4⟩
  have B4 : Below w.heap.size w w4 := Below.andThen B3 b4
  go_wp2_with fail
  refine (works_any _ (hT.next B4)).mono ?_
  rintro e w5 ⟨rfl, b5⟩
  go_wp2_with fail
  go_ret
  exact ⟨rfl, Below.andThen B4 b5⟩

set_option maxHeartbeats 4000000 in
set_option maxRecDepth 100000 in
theorem back_As (t : Int) (a : Option Addr) (la ca : Nat) (za : List Int) (l : List UInt8) (w : World) (ra : Row w a la za) (hT : Tabs w) (hla : la ≤ ca) (hca : ca ≤ maxLen) (h1 : la ≤ 5000) (h2 : l.length ≤ 20000) (hc : cbN t za = 0) (zs : List Int) (hk : kindN t ≠ 0) (hv : valN t l = some zs) :
    Calls Tryd.prog 3 #[.int .u8 t, .slice a la ca, .string (str l)] w fun e w' => e = .returned (.bool true) ∧ Below w.heap.size w w' := by
  have g1 : ¬ (5000 : Int) < (la : Int) := by omega
  have g2 : ¬ (20000 : Int) < (l.length : Int) := by omega
  have ho := ra.oct
  obtain ⟨sl, HSL, _, hsz, _⟩ := str_facts l
  obtain ⟨tx1, tx2⟩ := tx_ok t za hc
  have k0 := (cb_facts t za hc).1
  have VT := fun w hT => value_any t (textN t za) w k0 (textN_len t za ho hc) hT
  rw [val_text t za ho hc] at VT
  have TX := fun w a ca ra hT h1 h2 => text_any t a la ca za w ra hT h1 h2
  rw [tx1, tx2] at TX
  have CK := fun w a ra hT h1 h2 => check_any t a none none la ca 0 0 0 0 za [] [] w ra (row_nil _) (row_nil _) hT h1 h2 (Nat.le_refl _) (by decide) (Nat.le_refl _) (by decide)
  rw [chk_nil, hc] at CK
  obtain ⟨st, HST⟩ : ∃ s, Hid (str (textN t za) = s) := ⟨_, rfl⟩
  rw [HST.out] at VT TX
  have VS := fun w hT => value_any t l w hk (by omega) hT
  rw [hv] at VS
  obtain ⟨oc, oo, ol⟩ := val_ok t l zs hk hv
  obtain ⟨ux1, ux2⟩ := tx_ok t zs oc
  have UX := fun w a len ca ra hT h1 h2 => text_any t a len ca zs w ra hT h1 h2
  rw [ux1, ux2] at UX
  have VU := fun w hT => value_any t (textN t zs) w hk (textN_len t zs oo oc) hT
  rw [val_text t zs oo oc] at VU
  obtain ⟨su, HSU⟩ : ∃ s, Hid (str (textN t zs) = s) := ⟨_, rfl⟩
  rw [HSU.out] at UX VU
  rw [HSL.out] at VS ⊢
  clear HSL HST tx1 tx2 k0 hc ho hv oc oo ol ux1 ux2 HSU
  go_enter Tryd.func3, Tryd.ntmps3
  go_wp2_with fail
  refine (TX _ _ _ ra hT hla hca).mono ?_
  rintro e w1 ⟨rfl, B1⟩
  go_wp2_with fail
  refine (CK _ _ (ra.next B1) (hT.next B1).t64 hla hca).mono ?_
  rintro e w2 ⟨rfl, b2⟩
  have B2 : Below w.heap.size w w2 := Below.andThen B1 b2
  clear b2 B1
  go_wp2_with fail
  refine (VT _ (hT.next B2)).mono ?_
  rintro e w3 ⟨⟨x, lx, cx, rfl, ht⟩, b3⟩
  have B3 : Below w.heap.size w w3 := Below.andThen B2 b3
  have s1 := ht.row.str' cx
  have s2 := (ra.next B3).str' ca
  clear b3 B2 ht
  go_wp2_with fail
  refine (VS _ (hT.next B3)).mono ?_
  rintro e w4 ⟨⟨y, ly, cy, rfl, hty⟩, b4⟩
  have B4 : Below w.heap.size w w4 := Below.andThen B3 b4
  have ry := hty.row
  have ly1 := hty.le
  have ly2 := hty.max
  clear hty b4
  go_wp2_with fail
  refine (UX _ _ _ _ ry (hT.next B4) ly1 ly2).mono ?_
  rintro e w5 ⟨rfl, b5⟩
  have B5 : Below w.heap.size w w5 := Below.andThen B4 b5
  have ry := ry.next b5
  clear b5
  go_wp2_with fail
  refine (VU _ (hT.next B5)).mono ?_
  rintro e w6 ⟨⟨z, lz, cz, rfl, htz⟩, b6⟩
  have B6 : Below w.heap.size w w6 := Below.andThen B5 b6
  have s3 := (ry.next b6).str' cy
  have s4 := htz.row.str' cz
  clear htz b6 ry
  go_wp2_with fail
  refine (works_any _ (hT.next B6)).mono ?_
  rintro e w7 ⟨rfl, b7⟩
  go_wp2_with fail
  go_ret
  exact ⟨rfl, Below.andThen B6 b7⟩

set_option maxHeartbeats 4000000 in
set_option maxRecDepth 100000 in
theorem back_B0 (t : Int) (a : Option Addr) (la ca : Nat) (za : List Int) (l : List UInt8) (w : World) (ra : Row w a la za) (hT : Tabs w) (hla : la ≤ ca) (hca : ca ≤ maxLen) (h1 : la ≤ 5000) (h2 : l.length ≤ 20000) (hc : cbN t za ≠ 0) (hk : kindN t = 0) :
    Calls Tryd.prog 3 #[.int .u8 t, .slice a la ca, .string (str l)] w fun e w' => e = .returned (.bool true) ∧ Below w.heap.size w w' := by
  have g1 : ¬ (5000 : Int) < (la : Int) := by omega
  have g2 : ¬ (20000 : Int) < (l.length : Int) := by omega
  have ho := ra.oct
  obtain ⟨sl, HSL, _, hsz, _⟩ := str_facts l
  have te := tx_bad t za hc
  have TX := fun w a ca ra hT h1 h2 => text_any t a la ca za w ra hT h1 h2
  have CK := fun w a ra hT h1 h2 => check_any t a none none la ca 0 0 0 0 za [] [] w ra (row_nil _) (row_nil _) hT h1 h2 (Nat.le_refl _) (by decide) (Nat.le_refl _) (by decide)
  rw [chk_nil] at CK
  obtain ⟨st, HST⟩ : ∃ s, Hid (str (txS t za) = s) := ⟨_, rfl⟩
  rw [HST.out] at TX
  have be : (txE t za == 0) = false := by simpa using te
  have bc : (cbN t za == 0) = false := by simpa using hc
  generalize txE t za = ee at *
  generalize cbN t za = cc at *
  have VS := fun w => value_none t (str l) w hk
  rw [HSL.out] at VS ⊢
  clear HSL HST te hc ho 
  go_enter Tryd.func3, Tryd.ntmps3
  go_wp2_with fail
  refine (TX _ _ _ ra hT hla hca).mono ?_
  rintro e w1 ⟨rfl, B1⟩
  go_wp2_with fail
  refine (CK _ _ (ra.next B1) (hT.next B1).t64 hla hca).mono ?_
  rintro e w2 ⟨rfl, b2⟩
  have B2 : Below w.heap.size w w2 := Below.andThen B1 b2
  clear b2 B1
  have B3 := B2
  obtain ⟨w3, EW⟩ : ∃ x, x = w2 := ⟨_, rfl⟩
  subst EW
  clear B2
  go_wp2_with fail
  refine (VS _).mono ?_
  rintro e w4 ⟨rfl, b4⟩
  have B4 : Below w.heap.size w w4 := Below.andThen B3 b4
  go_wp2_with fail
  refine (works_any _ (hT.next B4)).mono ?_
  rintro e w5 ⟨rfl, b5⟩
  go_wp2_with fail
  go_ret
  exact ⟨rfl, Below.andThen B4 b5⟩

set_option maxHeartbeats 4000000 in
set_option maxRecDepth 100000 in
theorem back_Bn (t : Int) (a : Option Addr) (la ca : Nat) (za : List Int) (l : List UInt8) (w : World) (ra : Row w a la za) (hT : Tabs w) (hla : la ≤ ca) (hca : ca ≤ maxLen) (h1 : la ≤ 5000) (h2 : l.length ≤ 20000) (hc : cbN t za ≠ 0) (hk : kindN t ≠ 0) (hv : valN t l = none) :
    Calls Tryd.prog 3 #[.int .u8 t, .slice a la ca, .string (str l)] w fun e w' => e = .returned (.bool true) ∧ Below w.heap.size w w' := by
  have g1 : ¬ (5000 : Int) < (la : Int) := by omega
  have g2 : ¬ (20000 : Int) < (l.length : Int) := by omega
  have ho := ra.oct
  obtain ⟨sl, HSL, _, hsz, _⟩ := str_facts l
  have te := tx_bad t za hc
  have TX := fun w a ca ra hT h1 h2 => text_any t a la ca za w ra hT h1 h2
  have CK := fun w a ra hT h1 h2 => check_any t a none none la ca 0 0 0 0 za [] [] w ra (row_nil _) (row_nil _) hT h1 h2 (Nat.le_refl _) (by decide) (Nat.le_refl _) (by decide)
  rw [chk_nil] at CK
  obtain ⟨st, HST⟩ : ∃ s, Hid (str (txS t za) = s) := ⟨_, rfl⟩
  rw [HST.out] at TX
  have be : (txE t za == 0) = false := by simpa using te
  have bc : (cbN t za == 0) = false := by simpa using hc
  generalize txE t za = ee at *
  generalize cbN t za = cc at *
  have VS := fun w hT => value_any t l w hk (by omega) hT
  rw [hv] at VS
  rw [HSL.out] at VS ⊢
  clear HSL HST te hc ho hv
  go_enter Tryd.func3, Tryd.ntmps3
  go_wp2_with fail
  refine (TX _ _ _ ra hT hla hca).mono ?_
  rintro e w1 ⟨rfl, B1⟩
  go_wp2_with fail
  refine (CK _ _ (ra.next B1) (hT.next B1).t64 hla hca).mono ?_
  rintro e w2 ⟨rfl, b2⟩
  have B2 : Below w.heap.size w w2 := Below.andThen B1 b2
  clear b2 B1
  have B3 := B2
  obtain ⟨w3, EW⟩ : ∃ x, x = w2 := ⟨_, rfl⟩
  subst EW
  clear B2
  go_wp2_with fail
  refine (VS _ (hT.next B3)).mono ?_
  rintro e w4 ⟨rfl, b4⟩
  have B4 : Below w.heap.size w w4 := Below.andThen B3 b4
  go_wp2_with fail
  refine (works_any _ (hT.next B4)).mono ?_
  rintro e w5 ⟨rfl, b5⟩
  go_wp2_with fail
  go_ret
  exact ⟨rfl, Below.andThen B4 b5⟩

set_option maxHeartbeats 4000000 in
set_option maxRecDepth 100000 in
theorem back_Bs (t : Int) (a : Option Addr) (la ca : Nat) (za : List Int) (l : List UInt8) (w : World) (ra : Row w a la za) (hT : Tabs w) (hla : la ≤ ca) (hca : ca ≤ maxLen) (h1 : la ≤ 5000) (h2 : l.length ≤ 20000) (hc : cbN t za ≠ 0) (zs : List Int) (hk : kindN t ≠ 0) (hv : valN t l = some zs) :
    Calls Tryd.prog 3 #[.int .u8 t, .slice a la ca, .string (str l)] w fun e w' => e = .returned (.bool true) ∧ Below w.heap.size w w' := by
  have g1 : ¬ (5000 : Int) < (la : Int) := by omega
  have g2 : ¬ (20000 : Int) < (l.length : Int) := by omega
  have ho := ra.oct
  obtain ⟨sl, HSL, _, hsz, _⟩ := str_facts l
  have te := tx_bad t za hc
  have TX := fun w a ca ra hT h1 h2 => text_any t a la ca za w ra hT h1 h2
  have CK := fun w a ra hT h1 h2 => check_any t a none none la ca 0 0 0 0 za [] [] w ra (row_nil _) (row_nil _) hT h1 h2 (Nat.le_refl _) (by decide) (Nat.le_refl _) (by decide)
  rw [chk_nil] at CK
  obtain ⟨st, HST⟩ : ∃ s, Hid (str (txS t za) = s) := ⟨_, rfl⟩
  rw [HST.out] at TX
  have be : (txE t za == 0) = false := by simpa using te
  have bc : (cbN t za == 0) = false := by simpa using hc
  generalize txE t za = ee at *
  generalize cbN t za = cc at *
  have VS := fun w hT => value_any t l w hk (by omega) hT
  rw [hv] at VS
  obtain ⟨oc, oo, ol⟩ := val_ok t l zs hk hv
  obtain ⟨ux1, ux2⟩ := tx_ok t zs oc
  have UX := fun w a len ca ra hT h1 h2 => text_any t a len ca zs w ra hT h1 h2
  rw [ux1, ux2] at UX
  have VU := fun w hT => value_any t (textN t zs) w hk (textN_len t zs oo oc) hT
  rw [val_text t zs oo oc] at VU
  obtain ⟨su, HSU⟩ : ∃ s, Hid (str (textN t zs) = s) := ⟨_, rfl⟩
  rw [HSU.out] at UX VU
  rw [HSL.out] at VS ⊢
  clear HSL HST te hc ho hv oc oo ol ux1 ux2 HSU
  go_enter Tryd.func3, Tryd.ntmps3
  go_wp2_with fail
  refine (TX _ _ _ ra hT hla hca).mono ?_
  rintro e w1 ⟨rfl, B1⟩
  go_wp2_with fail
  refine (CK _ _ (ra.next B1) (hT.next B1).t64 hla hca).mono ?_
  rintro e w2 ⟨rfl, b2⟩
  have B2 : Below w.heap.size w w2 := Below.andThen B1 b2
  clear b2 B1
  have B3 := B2
  obtain ⟨w3, EW⟩ : ∃ x, x = w2 := ⟨_, rfl⟩
  subst EW
  clear B2
  go_wp2_with fail
  refine (VS _ (hT.next B3)).mono ?_
  rintro e w4 ⟨⟨y, ly, cy, rfl, hty⟩, b4⟩
  have B4 : Below w.heap.size w w4 := Below.andThen B3 b4
  have ry := hty.row
  have ly1 := hty.le
  have ly2 := hty.max
  clear hty b4
  go_wp2_with fail
  refine (UX _ _ _ _ ry (hT.next B4) ly1 ly2).mono ?_
  rintro e w5 ⟨rfl, b5⟩
  have B5 : Below w.heap.size w w5 := Below.andThen B4 b5
  have ry := ry.next b5
  clear b5
  go_wp2_with fail
  refine (VU _ (hT.next B5)).mono ?_
  rintro e w6 ⟨⟨z, lz, cz, rfl, htz⟩, b6⟩
  have B6 : Below w.heap.size w w6 := Below.andThen B5 b6
  have s3 := (ry.next b6).str' cy
  have s4 := htz.row.str' cz
  clear htz b6 ry
  go_wp2_with fail
  refine (works_any _ (hT.next B6)).mono ?_
  rintro e w7 ⟨rfl, b7⟩
  go_wp2_with fail
  go_ret
  exact ⟨rfl, Below.andThen B6 b7⟩

set_option maxHeartbeats 1000000 in
set_option maxRecDepth 100000 in
theorem typesBack_any (t : Int) (a : Option Addr) (la ca : Nat) (za : List Int) (l : List UInt8) (w : World) (ra : Row w a la za) (hT : Tabs w) (hla : la ≤ ca) (hca : ca ≤ maxLen) :
    Calls Tryd.prog 3 #[.int .u8 t, .slice a la ca, .string (str l)] w fun e w' => e = .returned (.bool true) ∧ Below w.heap.size w w' := by
  by_cases h1 : (5000 : Int) < (la : Int)
  · go_enter Tryd.func3, Tryd.ntmps3
    go_wp2_with fail
    refine (works_any _ hT).mono ?_
    rintro e w1 ⟨rfl, hb1⟩
    go_wp2_with fail
    go_ret
    exact ⟨rfl, hb1⟩
  by_cases h2 : (20000 : Int) < (l.length : Int)
  · obtain ⟨sl, HSL, _, hsz, _⟩ := str_facts l
    rw [HSL.out]
    go_enter Tryd.func3, Tryd.ntmps3
    go_wp2_with fail
    refine (works_any _ hT).mono ?_
    rintro e w1 ⟨rfl, hb1⟩
    go_wp2_with fail
    go_ret
    exact ⟨rfl, hb1⟩
  by_cases hc : cbN t za = 0
  · have hk := (cb_facts t za hc).1
    cases hv : valN t l with
    | none => exact back_An t a la ca za l w ra hT hla hca (by omega) (by omega) hc hk hv
    | some zs => exact back_As t a la ca za l w ra hT hla hca (by omega) (by omega) hc zs hk hv
  · by_cases hk : kindN t = 0
    · exact back_B0 t a la ca za l w ra hT hla hca (by omega) (by omega) hc hk
    · cases hv : valN t l with
      | none => exact back_Bn t a la ca za l w ra hT hla hca (by omega) (by omega) hc hk hv
      | some zs => exact back_Bs t a la ca za l w ra hT hla hca (by omega) (by omega) hc zs hk hv
theorem typesBack_str (t : Int) (a : Option Addr) (la ca : Nat) (za : List Int) (s : ByteArray) (w : World) (ra : Row w a la za) (hT : Tabs w) (hla : la ≤ ca) (hca : ca ≤ maxLen) :
    Calls Tryd.prog 3 #[.int .u8 t, .slice a la ca, .string s] w fun e w' => e = .returned (.bool true) ∧ Below w.heap.size w w' := by
  have h := typesBack_any t a la ca za s.data.toList w ra hT hla hca
  rwa [show str s.data.toList = s from by cases s; simp [str]] at h
#print axioms typesBack_str
end Go.Proofs.YtndogfemnpgfoaaDoor
