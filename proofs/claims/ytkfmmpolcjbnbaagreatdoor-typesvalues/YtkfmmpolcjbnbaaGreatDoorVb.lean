/-
  Plain facts for TypesBack: the text of a value is read as that value; what is read is a value.
  Plain facts for TypesBack: octets, quoted texts, moments; and all types together.
  Plain facts for TypesBack: what is read of a text is a value.
-/
import Derived.Test.YtkfmmpolcjbnbaaGreatDoorWhl1
import Derived.Test.YtkfmmpolcjbnbaaGreatDoorWhl2
import Derived.Test.YtkfmmpolcjbnbaaGreatDoorRfw
namespace Go.Proofs.YtkfmmpolcjbnbaaGreatDoor
open Pl Go.RowKit

theorem dec_chars (u : Nat) : ∀ c ∈ Lib.decDigits u, 48 ≤ c.toNat ∧ c.toNat ≤ 57 := by
  induction u using Nat.strongRecOn with
  | _ u ih =>
    by_cases h : u < 10
    · rw [decDig_small u h]
      intro c hc
      rw [List.mem_singleton] at hc
      subst hc
      have := digit_byte u h
      omega
    · rw [decDig_step u h]
      intro c hc
      rcases List.mem_append.1 hc with hc | hc
      · exact ih (u / 10) (by omega) c hc
      · rw [List.mem_singleton] at hc
        subst hc
        have := digit_byte (u % 10) (by omega)
        omega
theorem dec_not (u : Nat) (c : UInt8) (h : ¬ (48 ≤ c.toNat ∧ c.toNat ≤ 57)) : c ∉ Lib.decDigits u := fun hc => h (dec_chars u c hc)
theorem dec_cons (u : Nat) : ∃ c r, Lib.decDigits u = c :: r ∧ 48 ≤ c.toNat ∧ c.toNat ≤ 57 := by
  cases h : Lib.decDigits u with
  | nil =>
    exfalso
    by_cases h0 : u < 10
    · rw [decDig_small u h0] at h; simp at h
    · rw [decDig_step u h0] at h; simp at h
  | cons c r => exact ⟨c, r, rfl, dec_chars u c (by rw [h]; simp)⟩

theorem sgn9999 (E : Int) (h0 : -9999 ≤ E) (h1 : E ≤ 9999) : ∃ q, sgnV 9999 9999 (Lib.itoa E) = some q ∧ toI q = E := by
  rcases Int.lt_or_le E 0 with h | h
  · obtain ⟨u, hu⟩ : ∃ u : Nat, E = -(u : Int) := ⟨E.natAbs, by omega⟩
    subst hu
    rw [Lib.itoa_neg _ (by omega), sgnV_neg _ _ _ (by omega), if_pos (by omega)]
    refine ⟨_, rfl, ?_⟩
    unfold toI
    rw [if_neg (by omega)]
    omega
  · obtain ⟨u, rfl⟩ := Int.eq_ofNat_of_zero_le h
    rw [Lib.itoa_nonneg, sgnV_pos, if_pos (by omega)]
    refine ⟨_, rfl, ?_⟩
    unfold toI
    rw [if_pos (by omega)]

theorem ctz_odd (M : Nat) (ho : M % 2 = 1) (h : M < 18446744073709551616) : Lib.ctz 64 M = 0 := by
  obtain ⟨h1, h2, _⟩ := odd_parts M (by omega) h
  have := odd_unique 0 (Lib.ctz 64 M) M (M / 2 ^ Lib.ctz 64 M) ho h2 (by rw [Nat.pow_zero, Nat.mul_one]; exact h1)
  exact this.2.symm

/-- together of the odd part of a rung's worth is that rung. -/
theorem togM_back (fb b r M k L : Nat) (hfb : 1 ≤ fb) (hM1 : 2 ^ (L - 1) ≤ M) (hM2 : M < 2 ^ L) (hL1 : 1 ≤ L) (hv : M * 2 ^ k = fval (2 ^ fb) r) (hr : r < (2 * b + 1) * 2 ^ fb) (hLf : L ≤ fb + 1) (hb : 1 ≤ b) :
    togM fb (b : Int) ((k : Int) + (1 - (b : Int) - fb)) M L = some r := by
  have hB : 1 < 2 ^ fb := Nat.one_lt_two_pow (by omega)
  have hinf : fval (2 ^ fb) ((2 * b + 1) * 2 ^ fb) = 2 ^ (fb + 2 * b) := by
    unfold fval
    rw [if_neg (by have : 2 ^ fb ≤ (2 * b + 1) * 2 ^ fb := Nat.le_mul_of_pos_left _ (by omega); omega), Nat.mul_mod_left, Nat.mul_div_left _ (by omega), Nat.add_zero, Nat.add_sub_cancel, ← Nat.pow_add]
  have hlt : M * 2 ^ k < 2 ^ (fb + 2 * b) := by rw [hv, ← hinf]; exact (fval_lt _ _ _ hB).2 hr
  have hkl := len_bound M k L (fb + 2 * b) hL1 hM1 hlt
  unfold togM
  rw [if_neg (by omega)]
  by_cases c2 : (k : Int) + (1 - (b : Int) - fb) + L - 1 < 1 - (b : Int)
  · rw [if_pos c2, show ((k : Int) + (1 - (b : Int) - fb) - (1 - (b : Int) - fb)).toNat = k from by omega]
    obtain ⟨s1, s2⟩ := tog_small fb k L M hM2 (by omega)
    congr 1
    exact (fval_eq _ _ _ hB).1 (s2.trans hv)
  · rw [if_neg c2, show ((k : Int) + (1 - (b : Int) - fb) + L - 1 + (b : Int)).toNat = k + L - fb from by omega]
    obtain ⟨t1, t2, t3⟩ := tog_big fb k L M hM1 hM2 hL1 hLf (by omega)
    congr 1
    exact (fval_eq _ _ _ hB).1 (t3.trans hv)

/-- The text of an odd part is read as the rung. -/
theorem szV_odd (fb b inf m j r : Nat) (e : Int) (hfb : 1 ≤ fb) (hf52 : fb ≤ 52) (hb : 1 ≤ b) (hb2 : b ≤ 1023) (hm0 : m ≠ 0) (hm : m < 2 ^ (fb + 1)) (he : e = (j : Int) + (1 - (b : Int) - fb)) (hj : j ≤ 2 * b) (hv : m * 2 ^ j = fval (2 ^ fb) r) (hr : r < (2 * b + 1) * 2 ^ fb) :
    szV fb (b : Int) inf (oddS m e) = some r := by
  have h53 : 2 ^ (fb + 1) ≤ 2 ^ 53 := Nat.pow_le_pow_right (by decide) (by omega)
  have h53' : (2 : Nat) ^ 53 = 9007199254740992 := rfl
  obtain ⟨M, z, L, hg, hz, hmz, hodd, hL1, hL64, hM1, hM2, hM64⟩ := ctz_split m hm0 (by omega)
  have hz64 := hz
  obtain ⟨c, rr, hd, hc1, hc2⟩ := dec_cons M
  have hS : oddS m e = Lib.decDigits M ++ (112 :: Lib.itoa (e + (z : Int))) := by
    unfold oddS
    rw [hg.hz, hg.hM]
  rw [hS]
  obtain ⟨q, hq1, hq2⟩ := sgn9999 (e + (z : Int)) (by omega) (by omega)
  have hne : ¬ Lib.decDigits M ++ (112 :: Lib.itoa (e + (z : Int))) = [105, 110, 102] := by
    rw [hd]
    intro h
    simp at h
    have := h.1
    subst this
    exact absurd hc2 (by decide)
  unfold szV
  rw [if_neg hne, cutU_here 112 _ _ (dec_not M 112 (by decide))]
  show ((sgnV 9999 9999 (Lib.itoa (e + (z : Int)))).bind fun q => (decV 18446744073709551615 (Lib.decDigits M)).bind fun m => togV fb (b : Int) m (toI q)) = some r
  rw [hq1, decV_dec, if_pos (by omega)]
  show togV fb (b : Int) M (toI q) = some r
  rw [hq2]
  unfold togV
  rw [if_neg (by omega), ctz_odd M hodd hM64, Nat.pow_zero, Nat.div_one, hg.hL]
  have hLf : L + z ≤ fb + 1 := len_bound M z L (fb + 1) hL1 hM1 (by rw [← hmz]; exact hm)
  have hv' : M * 2 ^ (z + j) = fval (2 ^ fb) r := by rw [Nat.pow_add, ← Nat.mul_assoc, ← hmz]; exact hv
  have := togM_back fb b r M (z + j) L hfb hM1 hM2 hL1 hv' hr (by omega) hb
  rw [← this]
  congr 1
  omega

theorem sz64_back (R : Nat) (h : R ≤ 9218868437227405312) : szV 52 1023 9218868437227405312 (sizeS R) = some R := by
  unfold sizeS
  by_cases h1 : R = 9218868437227405312
  · rw [if_pos h1, h1]; unfold szV; rw [if_pos rfl]
  rw [if_neg h1]
  by_cases h2 : R = 0
  · rw [if_pos h2, h2]; decide +kernel
  rw [if_neg h2]
  by_cases h3 : R < 4503599627370496
  · rw [if_pos h3]
    exact szV_odd 52 1023 _ R 0 R (-1074) (by decide) (by decide) (by decide) (by decide) h2 (by show R < 9007199254740992; omega) (by decide) (by decide) (by rw [Nat.pow_zero, Nat.mul_one]; exact apart_val0 52 R h3) (by show R < 9218868437227405312; omega)
  · rw [if_neg h3]
    have hv := apart_val 52 R (by show 4503599627370496 ≤ R; omega)
    have hq : R / 4503599627370496 ≤ 2046 := by omega
    have hq1 : 1 ≤ R / 4503599627370496 := by omega
    exact szV_odd 52 1023 _ _ (R / 4503599627370496 - 1) R _ (by decide) (by decide) (by decide) (by decide) (by omega) (by show _ < 9007199254740992; omega) (by omega) (by omega) hv (by show R < 9218868437227405312; omega)
theorem sz32_back (r : Nat) (h : r ≤ 2139095040) : szV 23 127 2139095040 (sizeS32 r) = some r := by
  unfold sizeS32
  by_cases h1 : r = 2139095040
  · rw [if_pos h1, h1]; unfold szV; rw [if_pos rfl]
  rw [if_neg h1]
  by_cases h2 : r = 0
  · rw [if_pos h2, h2]; decide +kernel
  rw [if_neg h2]
  by_cases h3 : r < 8388608
  · rw [if_pos h3]
    exact szV_odd 23 127 _ r 0 r (-149) (by decide) (by decide) (by decide) (by decide) h2 (by show r < 16777216; omega) (by decide) (by decide) (by rw [Nat.pow_zero, Nat.mul_one]; exact apart_val0 23 r h3) (by show r < 2139095040; omega)
  · rw [if_neg h3]
    have hv := apart_val 23 r (by show 8388608 ≤ r; omega)
    have hq : r / 8388608 ≤ 254 := by omega
    have hq1 : 1 ≤ r / 8388608 := by omega
    exact szV_odd 23 127 _ _ (r / 8388608 - 1) r _ (by decide) (by decide) (by decide) (by decide) (by omega) (by show _ < 16777216; omega) (by omega) (by omega) hv (by show r < 2139095040; omega)

/-- What a text of a size begins with. -/
theorem sizeS_head (l : List UInt8) (h : ∃ m e, l = oddS m e) : ∃ c r, l = c :: r ∧ c ≠ 110 ∧ c ≠ 45 := by
  obtain ⟨m, e, rfl⟩ := h
  obtain ⟨c, r, hd, h1, h2⟩ := dec_cons (m / 2 ^ Lib.ctz 64 m)
  unfold oddS
  rw [hd]
  refine ⟨c, _, rfl, ?_, ?_⟩
  · rintro rfl; exact absurd h2 (by decide)
  · rintro rfl; exact absurd h1 (by decide)
theorem head64 (R : Nat) : ∃ c r, sizeS R = c :: r ∧ c ≠ 110 ∧ c ≠ 45 := by
  unfold sizeS
  split
  · exact ⟨_, _, rfl, by decide, by decide⟩
  split
  · exact ⟨_, _, rfl, by decide, by decide⟩
  split
  · exact sizeS_head _ ⟨_, _, rfl⟩
  · exact sizeS_head _ ⟨_, _, rfl⟩
theorem head32 (R : Nat) : ∃ c r, sizeS32 R = c :: r ∧ c ≠ 110 ∧ c ≠ 45 := by
  unfold sizeS32
  split
  · exact ⟨_, _, rfl, by decide, by decide⟩
  split
  · exact ⟨_, _, rfl, by decide, by decide⟩
  split
  · exact sizeS_head _ ⟨_, _, rfl⟩
  · exact sizeS_head _ ⟨_, _, rfl⟩

theorem hexZ_all : ((List.range 16).all fun d => hexC false (UInt8.ofNat (hexZ (d : Int)).toNat).toNat == some d && hexC true (UInt8.ofNat (hexZ (d : Int)).toNat).toNat == some d) = true := by decide +kernel
theorem hexZ_is (g : Bool) (d : Int) (h0 : 0 ≤ d) (h1 : d < 16) : hexC g (UInt8.ofNat (hexZ d).toNat).toNat = some d.toNat := by
  obtain ⟨n, rfl⟩ := Int.eq_ofNat_of_zero_le h0
  have := List.all_eq_true.1 hexZ_all n (List.mem_range.2 (by omega))
  simp at this
  cases g
  · exact this.1
  · exact this.2
theorem byteL_app (a b : List Int) : byteL (a ++ b) = byteL a ++ byteL b := by simp [byteL]
theorem hexF_rev : ∀ zs : List Int, Oct zs → hexF false 0 (byteL (hexL zs.reverse)) = some (num zs).toNat
  | [], _ => rfl
  | z :: zs, ho => by
    have hz := ho z (by simp)
    have ih := hexF_rev zs (fun n hn => ho n (by simp [hn]))
    have hn := (num_bd zs (fun n hn => ho n (by simp [hn]))).1
    rw [List.reverse_cons, hexL_snoc, byteL_app]
    show hexF false 0 (byteL (hexL zs.reverse) ++ [UInt8.ofNat (hexZ (z / 16)).toNat, UInt8.ofNat (hexZ (z % 16)).toNat]) = _
    rw [show byteL (hexL zs.reverse) ++ [UInt8.ofNat (hexZ (z / 16)).toNat, UInt8.ofNat (hexZ (z % 16)).toNat] = (byteL (hexL zs.reverse) ++ [UInt8.ofNat (hexZ (z / 16)).toNat]) ++ [UInt8.ofNat (hexZ (z % 16)).toNat] from by simp,
      hexF_snoc, hexF_snoc, ih, hexZ_is false (z / 16) (by omega) (by omega), hexZ_is false (z % 16) (by omega) (by omega)]
    show some (16 * (16 * (num zs).toNat + (z / 16).toNat) + (z % 16).toNat) = _
    congr 1
    simp only [num]
    omega
theorem byteL_len (zs : List Int) : (byteL zs).length = zs.length := by simp [byteL]
theorem pfx_no (l : List UInt8) (h : ∃ c r, l = c :: r ∧ c ≠ 110) : ¬ Lib.hasPrefix l [110, 97, 110, 58] = true := by
  obtain ⟨c, r, rfl, hc⟩ := h
  simp [Lib.hasPrefix, List.isPrefixOf]
  intro h
  exact absurd h.symm hc
theorem pfx_nan (l : List UInt8) : Lib.hasPrefix ([110, 97, 110, 58] ++ l) [110, 97, 110, 58] = true ∧ Lib.trimPrefix ([110, 97, 110, 58] ++ l) [110, 97, 110, 58] = l := by
  have h : Lib.hasPrefix ([110, 97, 110, 58] ++ l) [110, 97, 110, 58] = true := by simp [Lib.hasPrefix, List.isPrefixOf]
  refine ⟨h, ?_⟩
  unfold Lib.trimPrefix
  rw [if_pos h]
  rfl
theorem bytesL_num (zs : List Int) (ho : Oct zs) : bytesL (((num zs).toNat : Nat) : Int) zs.length = zs := by
  have hb := num_bd zs ho
  refine num_same _ _ (bytesL_oct _ _) ho (bytesL_length _ _) ?_
  rw [num_bytes, Nat.mod_eq_of_lt]
  · omega
  · have : ((num zs).toNat : Int) < ((2 ^ (8 * zs.length) : Nat) : Int) := by rw [Int.natCast_pow]; show ((num zs).toNat : Int) < 2 ^ (8 * zs.length); omega
    omega

theorem flt64_back (zs : List Int) (ho : Oct zs) (hl : zs.length = 8) : ((flt64V (rf64 zs)).map fun n => bytesL (n : Int) 8) = some zs := by
  have hb := num_bd zs ho
  rw [hl] at hb
  have hb1 : num zs < 18446744073709551616 := hb.2
  have hz := bytesL_num zs ho
  rw [hl] at hz
  have key : flt64V (rf64 zs) = some (num zs).toNat := by
    unfold rf64
    obtain ⟨N, hN⟩ : ∃ N, (num zs).toNat = N := ⟨_, rfl⟩
    have hh := hexF_rev zs ho
    rw [hN] at hh ⊢
    have hN64 : N < 18446744073709551616 := by omega
    by_cases h1 : 9218868437227405312 < N % 9223372036854775808
    · rw [if_pos h1]
      have pf := pfx_nan (byteL (hexL zs.reverse))
      unfold flt64V
      rw [if_pos pf.1, pf.2]
      unfold nan64V
      rw [if_pos (by rw [byteL_len, hexL_length, List.length_reverse, hl]), hh]
      show (if 9218868437227405312 < N % 9223372036854775808 then some N else none) = some N
      rw [if_pos h1]
    rw [if_neg h1]
    by_cases h2 : N / 9223372036854775808 = 1
    · rw [if_pos h2]
      unfold flt64V
      rw [if_neg (pfx_no _ ⟨45, _, rfl, by decide⟩), if_pos (show (45 :: sizeS (N % 9223372036854775808)).head? = some 45 from rfl)]
      show (szV 52 1023 9218868437227405312 (sizeS (N % 9223372036854775808))).map _ = _
      rw [sz64_back _ (by omega)]
      show some (N % 9223372036854775808 + 9223372036854775808) = some N
      congr 1
      omega
    · rw [if_neg h2]
      obtain ⟨c, r, e, n1, n2⟩ := head64 (N % 9223372036854775808)
      unfold flt64V
      rw [if_neg (pfx_no _ ⟨c, r, e, n1⟩), if_neg (by rw [e]; simpa using n2), sz64_back _ (by omega)]
      congr 1
      omega
  rw [key]
  exact congrArg some hz
theorem flt32_back (zs : List Int) (ho : Oct zs) (hl : zs.length = 4) : ((flt32V (rf32 zs)).map fun n => bytesL (n : Int) 4) = some zs := by
  have hb := num_bd zs ho
  rw [hl] at hb
  have hb1 : num zs < 4294967296 := hb.2
  have hz := bytesL_num zs ho
  rw [hl] at hz
  have key : flt32V (rf32 zs) = some (num zs).toNat := by
    unfold rf32
    obtain ⟨N, hN⟩ : ∃ N, (num zs).toNat = N := ⟨_, rfl⟩
    have hh := hexF_rev zs ho
    rw [hN] at hh ⊢
    have hN64 : N < 4294967296 := by omega
    by_cases h1 : 2139095040 < N % 2147483648
    · rw [if_pos h1]
      have pf := pfx_nan (byteL (hexL zs.reverse))
      unfold flt32V
      rw [if_pos pf.1, pf.2]
      unfold nan32V
      rw [if_pos (by rw [byteL_len, hexL_length, List.length_reverse, hl]), hh]
      show (if 2139095040 < N % 2147483648 then some N else none) = some N
      rw [if_pos h1]
    rw [if_neg h1]
    by_cases h2 : N / 2147483648 = 1
    · rw [if_pos h2]
      unfold flt32V
      rw [if_neg (pfx_no _ ⟨45, _, rfl, by decide⟩), if_pos (show (45 :: sizeS32 (N % 2147483648)).head? = some 45 from rfl)]
      show (szV 23 127 2139095040 (sizeS32 (N % 2147483648))).map _ = _
      rw [sz32_back _ (by omega)]
      show some (N % 2147483648 + 2147483648) = some N
      congr 1
      omega
    · rw [if_neg h2]
      obtain ⟨c, r, e, n1, n2⟩ := head32 (N % 2147483648)
      unfold flt32V
      rw [if_neg (pfx_no _ ⟨c, r, e, n1⟩), if_neg (by rw [e]; simpa using n2), sz32_back _ (by omega)]
      congr 1
      omega
  rw [key]
  exact congrArg some hz
#print axioms flt64_back
#print axioms flt32_back
end Go.Proofs.YtkfmmpolcjbnbaaGreatDoor
namespace Go.Proofs.YtkfmmpolcjbnbaaGreatDoor
open Pl Go.RowKit

/-! Octets. -/
theorem pr_cons (z : Int) (zs : List Int) (i : Nat) : pr (byteL (hexL (z :: zs))) (i + 1) = pr (byteL (hexL zs)) i := by
  unfold pr
  show hexF true 0 (((UInt8.ofNat (hexZ (z / 16)).toNat :: UInt8.ofNat (hexZ (z % 16)).toNat :: byteL (hexL zs)).drop (2 * (i + 1))).take 2) = _
  rw [show 2 * (i + 1) = 2 * i + 2 from by omega, List.drop_succ_cons, List.drop_succ_cons]
theorem pr_zero (z : Int) (zs : List Int) (h : 0 ≤ z ∧ z < 256) : pr (byteL (hexL (z :: zs))) 0 = some z.toNat := by
  show (hexC true (UInt8.ofNat (hexZ (z / 16)).toNat).toNat).bind (fun d => (hexC true (UInt8.ofNat (hexZ (z % 16)).toNat).toNat).bind fun d' => some (16 * (16 * 0 + d) + d')) = _
  rw [hexZ_is true (z / 16) (by omega) (by omega), hexZ_is true (z % 16) (by omega) (by omega)]
  show some (16 * (16 * 0 + (z / 16).toNat) + (z % 16).toNat) = _
  congr 1
  omega
theorem pr_hex : ∀ (zs : List Int) (i : Nat), Oct zs → i < zs.length → pr (byteL (hexL zs)) i = some (zs.getD i 0).toNat
  | [], i, _, h => absurd h (by simp)
  | z :: zs, 0, ho, _ => pr_zero z zs (ho z (by simp))
  | z :: zs, i + 1, ho, h => by
    rw [pr_cons, pr_hex zs i (fun n hn => ho n (by simp [hn])) (by simpa using h)]
    rfl
theorem oct_back (zs : List Int) (ho : Oct zs) (hl : zs.length ≤ 4096) : octV (byteL (hexL zs)) = some zs := by
  have hlen : (byteL (hexL zs)).length = 2 * zs.length := by rw [byteL_len, hexL_length]
  have h2 : (byteL (hexL zs)).length / 2 = zs.length := by omega
  unfold octV
  rw [h2, if_pos ⟨⟨by omega, by omega⟩, fun i hi => by rw [pr_hex zs i ho hi]; rfl⟩]
  congr 1
  refine List.ext_getElem (by simp) fun i h1 h2 => ?_
  have hi : i < zs.length := by simpa using h1
  have hz := ho zs[i] (List.getElem_mem hi)
  simp only [List.getElem_map, List.getElem_range]
  rw [pr_hex zs i ho hi]
  simp [List.getD_eq_getElem?_getD, hi]
  omega

/-! Quoted texts. -/
theorem quoR_quoB (z : Int) (r : List UInt8) (h : 0 ≤ z ∧ z < 256) : quoR (byteL (quoB z) ++ r) = some (z.toNat, (quoB z).length) := by
  have hz : (UInt8.ofNat z.toNat).toNat = z.toNat := by simp; omega
  unfold quoB
  by_cases h1 : z = 34 ∨ z = 92
  · rw [if_pos h1]
    unfold quoR
    rw [if_neg (show ¬ ch (byteL [92, z] ++ r) 0 ≠ 92 from by simp [ch, byteL])]
    have e1 : ch (byteL [92, z] ++ r) 1 = z.toNat := by simp only [ch, byteL]; show (UInt8.ofNat z.toNat).toNat = _; exact hz
    rw [e1, if_pos ⟨by simp [byteL], by omega⟩]
    rfl
  rw [if_neg h1]
  by_cases h2 : 32 ≤ z ∧ z ≤ 126
  · rw [if_pos h2]
    unfold quoR
    have e0 : ch (byteL [z] ++ r) 0 = z.toNat := by simp only [ch, byteL]; show (UInt8.ofNat z.toNat).toNat = _; exact hz
    rw [e0, if_pos (by omega), if_pos ⟨by omega, by omega⟩]
    rfl
  · rw [if_neg h2]
    unfold quoR
    rw [if_neg (show ¬ ch (byteL [92, 120, hexZ (z / 16), hexZ (z % 16)] ++ r) 0 ≠ 92 from by simp [ch, byteL])]
    have e1 : ch (byteL [92, 120, hexZ (z / 16), hexZ (z % 16)] ++ r) 1 = 120 := by simp only [ch, byteL]; rfl
    rw [e1, if_neg (by omega), if_pos ⟨by simp [byteL], rfl⟩]
    have e2 : ((byteL [92, 120, hexZ (z / 16), hexZ (z % 16)] ++ r).drop 2).take 2 = [UInt8.ofNat (hexZ (z / 16)).toNat, UInt8.ofNat (hexZ (z % 16)).toNat] := rfl
    rw [e2]
    have e3 : hexF false 0 [UInt8.ofNat (hexZ (z / 16)).toNat, UInt8.ofNat (hexZ (z % 16)).toNat] = some z.toNat := by
      show (hexC false (UInt8.ofNat (hexZ (z / 16)).toNat).toNat).bind (fun d => (hexC false (UInt8.ofNat (hexZ (z % 16)).toNat).toNat).bind fun d' => some (16 * (16 * 0 + d) + d')) = _
      rw [hexZ_is false (z / 16) (by omega) (by omega), hexZ_is false (z % 16) (by omega) (by omega)]
      show some (16 * (16 * 0 + (z / 16).toNat) + (z % 16).toNat) = _
      congr 1
      omega
    rw [e3]
    show (if 32 ≤ z.toNat ∧ z.toNat ≤ 126 then none else some (z.toNat, 4)) = _
    rw [if_neg (by omega)]
    rfl
theorem quoB_ne (z : Int) : quoB z ≠ [] := by
  unfold quoB
  split
  · simp
  split <;> simp
theorem qL_quo : ∀ (zs : List Int) (r : Nat), Oct zs → zs.length ≤ r → qL r (byteL (quoL zs)) = some zs
  | [], r, _, _ => qL_nil r
  | z :: zs, 0, _, h => absurd h (by simp)
  | z :: zs, r + 1, ho, h => by
    have hz := ho z (by simp)
    have ih := qL_quo zs r (fun n hn => ho n (by simp [hn])) (by simpa using h)
    have e : byteL (quoL (z :: zs)) = byteL (quoB z) ++ byteL (quoL zs) := by rw [← byteL_app]; rfl
    have hne : byteL (quoB z) ++ byteL (quoL zs) ≠ [] := by
      intro h'
      have h1 := (List.append_eq_nil_iff.1 h').1
      have h2 := congrArg List.length h1
      rw [byteL_len] at h2
      exact quoB_ne z (List.eq_nil_of_length_eq_zero h2)
    rw [e]
    simp only [qL]
    rw [if_neg hne, quoR_quoB z _ hz]
    show (qL r ((byteL (quoB z) ++ byteL (quoL zs)).drop (quoB z).length)).map (fun bs => ((z.toNat : Nat) : Int) :: bs) = _
    rw [← byteL_len (quoB z), List.drop_left, ih]
    show some (((z.toNat : Nat) : Int) :: zs) = _
    congr 2
    omega
theorem txt_back (zs : List Int) (ho : Oct zs) (hl : zs.length ≤ 4096) : txtV (byteL (34 :: quoL zs ++ [34])) = some zs := by
  have e : byteL (34 :: quoL zs ++ [34]) = 34 :: (byteL (quoL zs) ++ [34]) := by simp [byteL]
  rw [e]
  have p1 : Lib.hasPrefix (34 :: (byteL (quoL zs) ++ [34])) [34] = true := by simp [Lib.hasPrefix, List.isPrefixOf]
  have p2 : Lib.trimPrefix (34 :: (byteL (quoL zs) ++ [34])) [34] = byteL (quoL zs) ++ [34] := by unfold Lib.trimPrefix; rw [if_pos p1]; rfl
  have s1 : Lib.hasSuffix (byteL (quoL zs) ++ [34]) [34] = true := by unfold Lib.hasSuffix; rw [List.isSuffixOf_iff_suffix]; exact List.suffix_append _ _
  have s2 : Lib.trimSuffix (byteL (quoL zs) ++ [34]) [34] = byteL (quoL zs) := by unfold Lib.trimSuffix; rw [if_pos s1]; simp
  unfold txtV
  rw [if_pos p1, p2, if_pos s1, s2]
  exact qL_quo zs 4096 ho hl

/-! Moments. -/
theorem mom_back (zs : List Int) (ho : Oct zs) (hl : zs.length = 6) (hm : num (zs.take 4) < 86400000) : momV (Lib.decDigits (num (zs.drop 4)).toNat ++ (58 :: Lib.decDigits (num (zs.take 4)).toNat)) = some zs := by
  have t0 := num_bd _ (ho.take 4)
  have d0 := num_bd _ (ho.drop 4)
  have ht : (zs.take 4).length = 4 := by rw [List.length_take, hl]; rfl
  have hd : (zs.drop 4).length = 2 := by rw [List.length_drop, hl]
  have d1 : num (zs.drop 4) < 65536 := by have := d0.2; rw [hd] at this; exact this
  unfold momV
  rw [cutU_here 58 _ _ (dec_not _ 58 (by decide))]
  show ((decV 86399999 (Lib.decDigits (num (zs.take 4)).toNat)).bind fun m => (decV 65535 (Lib.decDigits (num (zs.drop 4)).toNat)).map fun d => bytesL (m : Int) 4 ++ bytesL (d : Int) 2) = some zs
  rw [decV_dec, decV_dec, if_pos (by omega), if_pos (by omega)]
  show some (bytesL (((num (zs.take 4)).toNat : Nat) : Int) 4 ++ bytesL (((num (zs.drop 4)).toNat : Nat) : Int) 2) = some zs
  have b1 := bytesL_num _ (ho.take 4)
  have b2 := bytesL_num _ (ho.drop 4)
  rw [ht] at b1
  rw [hd] at b2
  rw [b1, b2, List.take_append_drop]

/-- What the right length of a value is. -/
theorem cb_facts (t : Int) (zs : List Int) (h : cbN t zs = 0) : kindN t ≠ 0 ∧ zs.length ≤ 4096 ∧ (1 ≤ sizeN t → (zs.length : Int) = sizeN t) ∧ (kindN t = 1 → zs.getD 0 0 ≤ 1) ∧ (kindN t = 5 → num (zs.take 4) < 86400000) := by
  have h0 := cb_zero_len t zs h
  refine ⟨h0.1, by omega, h0.2.2, fun k => ?_, fun k => ?_⟩
  · unfold cbN at h
    by_cases c : kindN t = 1 ∧ 1 < zs.getD 0 0
    · exfalso
      rw [if_neg h0.1] at h
      by_cases x1 : (if sizeN t = 0 then 4096 else sizeN t) < (zs.length : Int)
      · rw [if_pos x1] at h; exact absurd h (by decide)
      rw [if_neg x1] at h
      by_cases x2 : (zs.length : Int) < sizeN t
      · rw [if_pos x2] at h; exact absurd h (by decide)
      rw [if_neg x2, if_pos c] at h
      exact absurd h (by decide)
    · have : ¬ 1 < zs.getD 0 0 := fun h => c ⟨k, h⟩
      omega
  · unfold cbN at h
    by_cases c : kindN t = 5 ∧ 86400000 ≤ num (zs.take 4)
    · exfalso
      rw [if_neg h0.1] at h
      by_cases x1 : (if sizeN t = 0 then 4096 else sizeN t) < (zs.length : Int)
      · rw [if_pos x1] at h; exact absurd h (by decide)
      rw [if_neg x1] at h
      by_cases x2 : (zs.length : Int) < sizeN t
      · rw [if_pos x2] at h; exact absurd h (by decide)
      rw [if_neg x2, if_neg (by omega), if_pos c] at h
      exact absurd h (by decide)
    · have : ¬ 86400000 ≤ num (zs.take 4) := fun h => c ⟨k, h⟩
      omega

/-- A value's text is read as that value. -/
theorem val_text (t : Int) (zs : List Int) (ho : Oct zs) (hc : cbN t zs = 0) : valN t (textN t zs) = some zs := by
  obtain ⟨k0, hl, hs, h1, h5⟩ := cb_facts t zs hc
  have kb := kind_bd t
  have ks := kind_size t
  unfold valN textN
  by_cases k1 : kindN t = 1
  · rw [if_pos k1, if_pos k1]
    have hl1 : zs.length = 1 := by have := hs (by rw [ks.2.1 k1]; omega); rw [ks.2.1 k1] at this; omega
    match zs, hl1 with
    | [z], _ =>
      have hz := ho z (by simp)
      have hz1 := h1 k1
      simp at hz1
      have : z = 0 ∨ z = 1 := by omega
      rcases this with rfl | rfl <;> rfl
  rw [if_neg k1, if_neg k1]
  have hb := num_bd zs ho
  by_cases k2 : kindN t = 2
  · rw [if_pos (.inl k2), if_pos k2]
    have hz := int_sizes t (.inl k2)
    have hls := hs (by omega)
    obtain ⟨M, hM⟩ := Int.eq_ofNat_of_zero_le hb.1
    have hM2 : M < 2 ^ (8 * zs.length) := by
      have : ((M : Nat) : Int) < ((2 ^ (8 * zs.length) : Nat) : Int) := by rw [Int.natCast_pow]; show (M : Int) < 2 ^ (8 * zs.length); rw [← hM]; exact hb.2
      omega
    have := (int_back t M zs.length (by omega) (by omega) hls.symm k2 hM2).1
    rw [hM, this]
    congr 1
    have e := bytesL_num zs ho
    rw [hM, Int.toNat_natCast] at e
    exact e
  rw [if_neg k2]
  by_cases k3 : kindN t = 3
  · rw [if_pos (.inr k3), if_pos k3]
    have hz := int_sizes t (.inr k3)
    have hls := hs (by omega)
    obtain ⟨M, hM⟩ := Int.eq_ofNat_of_zero_le hb.1
    have hM2 : M < 2 ^ (8 * zs.length) := by
      have : ((M : Nat) : Int) < ((2 ^ (8 * zs.length) : Nat) : Int) := by rw [Int.natCast_pow]; show (M : Int) < 2 ^ (8 * zs.length); rw [← hM]; exact hb.2
      omega
    have := (uns_back t M zs.length (by omega) hls.symm k3 hM2).1
    rw [hM, Int.toNat_natCast, this]
    congr 1
    have e := bytesL_num zs ho
    rw [hM, Int.toNat_natCast] at e
    exact e
  rw [if_neg (by omega), if_neg k3]
  by_cases k4 : kindN t = 4
  · rw [if_pos k4, if_pos k4]
    rcases float_types t k4 with ⟨rfl, h4⟩ | ⟨rfl, h8⟩
    · rw [if_neg (by decide), if_neg (by decide)]
      exact flt32_back zs ho (by have := hs (by omega); omega)
    · rw [if_pos rfl, if_pos rfl]
      exact flt64_back zs ho (by have := hs (by omega); omega)
  rw [if_neg k4, if_neg k4]
  by_cases k5 : kindN t = 5
  · rw [if_pos k5, if_pos k5]
    have h6 := ks.2.2.1 k5
    exact mom_back zs ho (by have := hs (by omega); omega) (h5 k5)
  rw [if_neg k5, if_neg k5]
  by_cases k6 : kindN t = 6
  · rw [if_pos k6, if_pos k6]
    exact txt_back zs ho hl
  · rw [if_neg k6, if_neg k6]
    exact oct_back zs ho hl
#print axioms val_text
end Go.Proofs.YtkfmmpolcjbnbaaGreatDoor
namespace Go.Proofs.YtkfmmpolcjbnbaaGreatDoor
open Pl Go.RowKit

theorem cb_intro (t : Int) (zs : List Int) (k0 : kindN t ≠ 0) (h1 : (zs.length : Int) ≤ (if sizeN t = 0 then 4096 else sizeN t)) (h2 : sizeN t ≤ (zs.length : Int)) (h3 : kindN t = 1 → zs.getD 0 0 ≤ 1) (h4 : kindN t = 5 → num (zs.take 4) < 86400000) : cbN t zs = 0 := by
  unfold cbN
  rw [if_neg k0, if_neg (by omega), if_neg (by omega), if_neg (by intro h; have := h3 h.1; omega), if_neg (by intro h; have := h4 h.1; omega)]

theorem decV_le (most : Nat) (l : List UInt8) (n : Nat) (h : decV most l = some n) : n ≤ most := by
  unfold decV at h
  split at h
  · exact decFold_le most _ 0 n (Nat.zero_le _) h
  · cases h

theorem qL_ok : ∀ (r : Nat) (l : List UInt8) (zs : List Int), qL r l = some zs → Oct zs ∧ zs.length ≤ r
  | 0, l, zs, h => by
    simp only [qL] at h
    split at h
    · cases h; exact ⟨fun n hn => by simp at hn, Nat.le_refl _⟩
    · cases h
  | r + 1, l, zs, h => by
    simp only [qL] at h
    split at h
    · cases h; exact ⟨fun n hn => by simp at hn, by simp⟩
    next hne =>
    cases hq : quoR l with
    | none => rw [hq] at h; cases h
    | some p =>
      rw [hq] at h
      obtain ⟨c, u⟩ := p
      replace h : (qL r (l.drop u)).map (fun bs => (c : Int) :: bs) = some zs := h
      cases hr : qL r (l.drop u) with
      | none => rw [hr] at h; cases h
      | some bs =>
        rw [hr] at h
        cases h
        have ih := qL_ok r _ bs hr
        have hc := (quoR_used l c u hne hq).2.2
        refine ⟨fun n hn => ?_, by simp; exact ih.2⟩
        rcases List.mem_cons.1 hn with rfl | hn
        · omega
        · exact ih.1 n hn

theorem val_ok (t : Int) (l : List UInt8) (zs : List Int) (k0 : kindN t ≠ 0) (h : valN t l = some zs) : cbN t zs = 0 ∧ Oct zs ∧ zs.length ≤ 4096 := by
  have kb := kind_bd t
  have ks := kind_size t
  have sb := size_bd t
  unfold valN at h
  by_cases k1 : kindN t = 1
  · rw [if_pos k1] at h
    have hs := ks.2.1 k1
    unfold truV at h
    by_cases h1 : l = [116, 114, 117, 101]
    · rw [if_pos h1] at h; cases h
      exact ⟨cb_intro t _ k0 (by rw [hs]; decide) (by rw [hs]; decide) (fun _ => by decide) (fun k => by omega), fun n hn => by simp at hn; omega, by decide⟩
    rw [if_neg h1] at h
    by_cases h2 : l = [102, 97, 108, 115, 101]
    · rw [if_pos h2] at h; cases h
      exact ⟨cb_intro t _ k0 (by rw [hs]; decide) (by rw [hs]; decide) (fun _ => by decide) (fun k => by omega), fun n hn => by simp at hn; omega, by decide⟩
    rw [if_neg h2] at h
    cases h
  rw [if_neg k1] at h
  by_cases k2 : kindN t = 2 ∨ kindN t = 3
  · rw [if_pos k2] at h
    have hz := int_sizes t k2
    unfold intV at h
    cases hv : (if kindN t = 2 then sgnV (2 ^ (8 * (sizeN t).toNat - 1)) (2 ^ (8 * (sizeN t).toNat - 1) - 1) l else unsV (2 ^ (8 * (sizeN t).toNat) - 1) l) with
    | none => rw [hv] at h; cases h
    | some n =>
      rw [hv] at h
      cases h
      have hl := bytesL_length (n : Int) (sizeN t).toNat
      exact ⟨cb_intro t _ k0 (by rw [hl, if_neg (by omega)]; omega) (by rw [hl]; omega) (fun k => by omega) (fun k => by omega), bytesL_oct _ _, by rw [hl]; omega⟩
  rw [if_neg k2] at h
  by_cases k4 : kindN t = 4
  · rw [if_pos k4] at h
    rcases float_types t k4 with ⟨rfl, hs⟩ | ⟨rfl, hs⟩
    · rw [if_neg (by decide)] at h
      cases hv : flt32V l with
      | none => rw [hv] at h; cases h
      | some n =>
        rw [hv] at h
        cases h
        have hl := bytesL_length (n : Int) 4
        exact ⟨cb_intro 8 _ k0 (by rw [hl, hs]; decide) (by rw [hl, hs]; decide) (fun k => by omega) (fun k => by omega), bytesL_oct _ _, by rw [hl]; omega⟩
    · rw [if_pos rfl] at h
      cases hv : flt64V l with
      | none => rw [hv] at h; cases h
      | some n =>
        rw [hv] at h
        cases h
        have hl := bytesL_length (n : Int) 8
        exact ⟨cb_intro 17 _ k0 (by rw [hl, hs]; decide) (by rw [hl, hs]; decide) (fun k => by omega) (fun k => by omega), bytesL_oct _ _, by rw [hl]; omega⟩
  rw [if_neg k4] at h
  by_cases k5 : kindN t = 5
  · rw [if_pos k5] at h
    have hs := ks.2.2.1 k5
    unfold momV at h
    cases hc : cutU 58 l with
    | none => rw [hc] at h; cases h
    | some p =>
      rw [hc] at h
      replace h : ((decV 86399999 p.2).bind fun m => (decV 65535 p.1).map fun d => bytesL (m : Int) 4 ++ bytesL (d : Int) 2) = some zs := h
      cases h1 : decV 86399999 p.2 with
      | none => rw [h1] at h; cases h
      | some m =>
        rw [h1] at h
        replace h : ((decV 65535 p.1).map fun d => bytesL (m : Int) 4 ++ bytesL (d : Int) 2) = some zs := h
        have hm := decV_le _ _ _ h1
        cases h2 : decV 65535 p.1 with
        | none => rw [h2] at h; cases h
        | some d =>
          rw [h2] at h
          cases h
          have l4 := bytesL_length (m : Int) 4
          have l2 := bytesL_length (d : Int) 2
          have hl : (bytesL (m : Int) 4 ++ bytesL (d : Int) 2).length = 6 := by rw [List.length_append, l4, l2]
          refine ⟨cb_intro t _ k0 (by rw [hl, hs]; decide) (by rw [hl, hs]; decide) (fun k => by omega) (fun _ => ?_), fun n hn => (List.mem_append.1 hn).elim (bytesL_oct _ _ n) (bytesL_oct _ _ n), by rw [hl]; omega⟩
          rw [show (bytesL (m : Int) 4 ++ bytesL (d : Int) 2).take 4 = bytesL (m : Int) 4 from List.take_left' l4, num_bytes, Nat.mod_eq_of_lt (by show m < 4294967296; omega)]
          omega
  rw [if_neg k5] at h
  by_cases k6 : kindN t = 6
  · rw [if_pos k6] at h
    have hs := ks.2.2.2.1 k6
    unfold txtV at h
    by_cases h1 : Lib.hasPrefix l [34] = true
    · rw [if_pos h1] at h
      by_cases h2 : Lib.hasSuffix (Lib.trimPrefix l [34]) [34] = true
      · rw [if_pos h2] at h
        have hq := qL_ok 4096 _ zs h
        exact ⟨cb_intro t _ k0 (by rw [hs, if_pos rfl]; omega) (by rw [hs]; omega) (fun k => by omega) (fun k => by omega), hq.1, hq.2⟩
      · rw [if_neg h2] at h; cases h
    rw [if_neg h1] at h
    by_cases h2 : l.length ≤ 4096
    · rw [if_pos h2] at h
      cases h
      refine ⟨cb_intro t _ k0 (by rw [hs, if_pos rfl, List.length_map]; omega) (by rw [hs]; omega) (fun k => by omega) (fun k => by omega), fun n hn => ?_, by rw [List.length_map]; exact h2⟩
      obtain ⟨c, _, rfl⟩ := List.mem_map.1 hn
      have := c.toNat_lt
      omega
    · rw [if_neg h2] at h; cases h
  rw [if_neg k6] at h
  have k7 : kindN t = 7 := by omega
  have hs := ks.2.2.2.2.1 k7
  unfold octV at h
  split at h
  · next hc =>
    cases h
    have hl : ((List.range (l.length / 2)).map fun i => (((pr l i).getD 0 : Nat) : Int)).length = l.length / 2 := by simp
    refine ⟨cb_intro t _ k0 (by rw [hl, hs, if_pos rfl]; omega) (by rw [hl, hs]; omega) (fun k => by omega) (fun k => by omega), fun n hn => ?_, by rw [hl]; omega⟩
    obtain ⟨i, _, rfl⟩ := List.mem_map.1 hn
    have := pr_lt l i
    omega
  · cases h
#print axioms val_ok
end Go.Proofs.YtkfmmpolcjbnbaaGreatDoor
