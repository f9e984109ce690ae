/-
  The walks of math/bits.Len and the sort's nextPowerOfTwo, Next, breakPatterns.
-/
import Derived.Test.YtndlpjfofjikeaaBc4
import Derived.Test.YtndlpjfofjikeaaShelf
import Derived.Sort.Walk7
namespace Go.Proofs.Ytndlpjfofjikeaa
open Go.RowKit

set_option linter.unusedSimpArgs false in
set_option maxHeartbeats 4000000 in
set_option maxRecDepth 100000 in
theorem len_of (n : Nat) (hn : n < 4611686018427387904) (w : World) : Calls Try.prog 45 #[.int .u64 (n : Int)] w fun e w' => e = .returned (.int .i64 (Go.Sort.bitsLen n : Nat)) ∧ w' = w := by
  have h := fun w => Try.bits_Len64 (n : Int) w (by omega) (by omega)
  rw [Int.toNat_natCast, bitLen_eq _ (by omega)] at h
  go_enter Try.func45, Try.ntmps45
  go_wp2_with fail
  refine (h _).mono ?_
  rintro e x ⟨rfl, rfl⟩
  go_wp2_with fail
  go_ret
  exact ⟨rfl, rfl⟩

set_option linter.unusedSimpArgs false in
set_option maxHeartbeats 4000000 in
set_option maxRecDepth 100000 in
theorem pow_of (n : Nat) (hn : n < 4611686018427387904) (w : World) : Calls Try.prog 58 #[.int .i64 (n : Int)] w fun e w' => e = .returned (.int .u64 ((1 <<< Go.Sort.bitsLen n : Nat) : Int)) ∧ w' = w := by
  have h := len_of n hn
  have hk : Go.Sort.bitsLen n ≤ 62 := (Go.Sort.bitsLen_le_iff n 62).2 (by omega)
  have hp := wrap_two_pow (Go.Sort.bitsLen n) hk
  go_enter Try.func58, Try.ntmps58
  go_wp2_with fail
  refine (h _).mono ?_
  rintro e x ⟨rfl, rfl⟩
  go_wp2_with fail
  go_ret
  exact ⟨rfl, rfl⟩
#print axioms pow_of

set_option linter.unusedSimpArgs false in
set_option maxHeartbeats 4000000 in
set_option maxRecDepth 100000 in
theorem xnext_any (q X : Nat) (hX : X < 18446744073709551616) (w : World) (hc : w.cell? ⟨q, 0, none⟩ = some (.int .u64 (X : Int))) (hf : w.frozen? ⟨q, 0, none⟩ = false) :
    Calls Try.prog 59 #[.pointer (some ⟨q, 0, none⟩)] w fun e w' => e = .returned (.int .u64 (Go.Sort.xorNextN X : Nat)) ∧ w' = (w.setCell ⟨q, 0, none⟩ (.int .u64 (Go.Sort.xorNextN X : Nat))).drewN 3 := by
  obtain ⟨A, hA⟩ : ∃ A : Nat, A = X ^^^ (X * 8192 % 18446744073709551616) := ⟨_, rfl⟩
  obtain ⟨B, hB⟩ : ∃ B : Nat, B = A ^^^ (A / 128) := ⟨_, rfl⟩
  obtain ⟨C, hC⟩ : ∃ C : Nat, C = B ^^^ (B * 131072 % 18446744073709551616) := ⟨_, rfl⟩
  have lA : A < 18446744073709551616 := by rw [hA]; exact Nat.xor_lt_two_pow (n := 64) (by omega) (by omega)
  have lB : B < 18446744073709551616 := by rw [hB]; exact Nat.xor_lt_two_pow (n := 64) (by omega) (by omega)
  have e1 : bits .xor .u64 (X : Int) (IntKind.u64.wrap ((X : Int) * 8192)) = (A : Int) := by
    rw [IntKind.wrap_u64, show ((X : Int) * 8192 % 18446744073709551616) = ((X * 8192 % 18446744073709551616 : Nat) : Int) by omega, bits_xor_u64_nat _ _ hX (by omega), hA]
  have e2 : bits .xor .u64 (A : Int) ((A : Int) / 128) = (B : Int) := by
    rw [show ((A : Int) / 128) = ((A / 128 : Nat) : Int) by omega, bits_xor_u64_nat _ _ lA (by omega), hB]
  have e3 : bits .xor .u64 (B : Int) (IntKind.u64.wrap ((B : Int) * 131072)) = (C : Int) := by
    rw [IntKind.wrap_u64, show ((B : Int) * 131072 % 18446744073709551616) = ((B * 131072 % 18446744073709551616 : Nat) : Int) by omega, bits_xor_u64_nat _ _ lB (by omega), hC]
  have hv : Go.Sort.xorNextN X = C := by unfold Go.Sort.xorNextN; simp only []; rw [← hA, ← hB, ← hC]
  rw [hv]
  clear hA hB hC hv
  have hss : ∀ v v', (w.setCell ⟨q, 0, none⟩ v).setCell ⟨q, 0, none⟩ v' = w.setCell ⟨q, 0, none⟩ v' := setCell_setCell w q 0
  go_enter Try.func59, Try.ntmps59
  go_wp2_with fail
  go_region
  all_goals go_wp2_with fail
  all_goals go_region
  all_goals go_wp2_with fail
  all_goals go_region
  all_goals go_wp2_with fail
  go_ret
  exact ⟨rfl, rfl⟩
#print axioms xnext_any

/-- The generator's number in memory. -/
structure IsX (w : World) (q X : Nat) : Prop where
  heap : w.heap[q]? = some (.cells #[.int .u64 (X : Int)] 108 (0, 0))
theorem IsX.c0 {w : World} {q c : Nat} (h : IsX w q c) : w.cell? ⟨q, 0, none⟩ = some (.int .u64 (c : Int)) := by rw [cell_of_row w q 0 _ _ _ h.heap]; rfl
theorem IsX.fz {w : World} {q c : Nat} (h : IsX w q c) : w.frozen? ⟨q, 0, none⟩ = false := frozen_of_row w q 0 _ _ h.heap
theorem IsX.set {w : World} {q c : Nat} (h : IsX w q c) (x k : Nat) : IsX ((w.setCell ⟨q, 0, none⟩ (.int .u64 (x : Int))).drewN k) q x := ⟨by rw [show ((w.setCell ⟨q, 0, none⟩ (.int .u64 (x : Int))).drewN k).heap = (w.setCell ⟨q, 0, none⟩ (.int .u64 (x : Int))).heap from by simp, heap_setCell_same w q 0 _ _ _ h.heap]; rfl⟩
theorem IsX.kp {w w' : World} {q c : Nat} {S : List Nat} (h : IsX w q c) (k : Kp S w w') (hq : q ∉ S) : IsX w' q c := ⟨by rw [k.block q (lt_of_heap h.heap) hq]; exact h.heap⟩

set_option linter.unusedSimpArgs false in
set_option maxHeartbeats 4000000 in
set_option maxRecDepth 100000 in
theorem breakPatterns_any {w : World} {base g N cap : Nat} {d : Array Sn} (h : IsA w base g N cap d) (a b : Nat) (hab : a + 8 ≤ b) (hb : b ≤ N) (hN : N ≤ 1000000) :
    Calls Try.prog 51 #[.iface 59 (.agg #[.slice (some ⟨g, 0, none⟩) N cap]), .int .i64 (a : Int), .int .i64 (b : Int)] w fun e w' => e = .returned (.tuple #[]) ∧ IsA w' base g N cap (Go.Sort.breakPatterns d a b) ∧ Kp [g] w w' := by
  obtain ⟨T, hT⟩ : ∃ T, Hid (T = Go.Sort.breakPatterns d a b) := ⟨_, rfl⟩
  rw [← hT.out]
  obtain ⟨L, hL⟩ : ∃ L, Hid (L = b - a) := ⟨_, rfl⟩
  obtain ⟨M, hM⟩ : ∃ M, Hid (M = 1 <<< Go.Sort.bitsLen L) := ⟨_, rfl⟩
  obtain ⟨i0, hi0⟩ : ∃ i0, Hid (i0 = a + L / 4 * 2 - 1) := ⟨_, rfl⟩
  have l8 : 8 ≤ L := by have := hL.out; omega
  have g8 : (8 : Int) ≤ (L : Int) := by omega
  have lL : L ≤ 1000000 := by have := hL.out; omega
  have BR : Hid (bpRest a L M i0 3 0 (UInt64.ofNat L, d) = T) := by
    show _ = T
    have hb' : b = a + L := by have := hL.out; omega
    rw [hT.out, hM.out, hi0.out, hb', breakPatterns_eq d a L l8]
  have hM1 : 1 ≤ M := by rw [hM.out, Nat.one_shiftLeft]; exact Nat.two_pow_pos _
  have hM2 : M ≤ 2 * L := by rw [hM.out, Nat.one_shiftLeft]; exact Go.Sort.two_pow_bitsLen_le (by omega)
  have NP := pow_of L (by omega)
  rw [← hM.out] at NP
  obtain ⟨Q4, hQ4⟩ : ∃ Q, Hid (Q = L / 4) := ⟨_, rfl⟩
  obtain ⟨E2, hE2⟩ : ∃ Q, Hid (Q = L / 4 * 2) := ⟨_, rfl⟩
  obtain ⟨J, hJ⟩ : ∃ Q, Hid (Q = a + L / 4 * 2) := ⟨_, rfl⟩
  obtain ⟨J1, hJ1⟩ : ∃ Q, Hid (Q = a + L / 4 * 2 + 1) := ⟨_, rfl⟩
  have wL : IntKind.i64.wrap ((b : Int) - (a : Int)) = (L : Int) := by have := hL.out; rw [IntKind.wrap_i64]; omega
  have uL : IntKind.u64.wrap (L : Int) = (L : Int) := by rw [IntKind.wrap_u64]; omega
  have tq : (L : Int).tdiv 4 = (Q4 : Int) := by rw [hQ4.out, Int.tdiv_eq_ediv_of_nonneg (by omega)]; omega
  have wq : IntKind.i64.wrap (Q4 : Int) = (Q4 : Int) := by have := hQ4.out; rw [IntKind.wrap_i64]; omega
  have w2 : IntKind.i64.wrap ((Q4 : Int) * 2) = (E2 : Int) := by have := hQ4.out; have := hE2.out; rw [IntKind.wrap_i64]; omega
  have wj : IntKind.i64.wrap ((a : Int) + (E2 : Int)) = (J : Int) := by have := hE2.out; have := hJ.out; rw [IntKind.wrap_i64]; omega
  have w0 : IntKind.i64.wrap ((J : Int) - 1) = (i0 : Int) := by have := hi0.out; have := hJ.out; rw [IntKind.wrap_i64]; omega
  have w1 : IntKind.i64.wrap ((J : Int) + 1) = (J1 : Int) := by have := hJ1.out; have := hJ.out; rw [IntKind.wrap_i64]; omega
  have Jb : i0 + 2 = J1 ∧ a ≤ i0 ∧ J1 < b := by have := hJ1.out; have := hi0.out; have := hL.out; omega
  have wM : IntKind.u64.wrap ((M : Int) - 1) = ((M - 1 : Nat) : Int) := by rw [IntKind.wrap_u64]; omega
  have hgl := h.lt
  have IN0 : Hid (IsX (w.alloc (.cells #[.int .u64 (L : Int)] 108)) w.heap.size L ∧ IsA (w.alloc (.cells #[.int .u64 (L : Int)] 108)) base g N cap d ∧ Kp [g] w (w.alloc (.cells #[.int .u64 (L : Int)] 108))) := ⟨⟨heap_alloc_last w _⟩, h.next (Below.al (Below.refl _ _) _), Kp.of (Below.al (Below.refl _ _) _)⟩
  have M2 := meth_swapV 234 (by decide) (some ⟨g, 0, none⟩) N cap
  clear h hT hM
  go_enter Try.func51, Try.ntmps51
  go_wp2_with fail
  refine (NP _).mono ?_
  rintro e9 x ⟨rfl, rfl⟩
  clear NP
  go_wp2_with fail
  go_loopw [9] (fun u wr => ∃ (t : Nat) (r : UInt64) (e : Array Sn), u = .int .i64 ((i0 + t : Nat) : Int) ∧ t ≤ 3 ∧ IsX wr w.heap.size r.toNat ∧ bpRest a L M i0 (3 - t) t (r, e) = T ∧ IsA wr base g N cap e ∧ Kp [g] w wr) (fun u _ => i0 + 3 - (intOf u).toNat)
  case atStart => exact ⟨0, UInt64.ofNat L, d, rfl, by omega, by rw [show (UInt64.ofNat L).toNat = L from by simp; omega]; exact IN0.out.1, BR.out, IN0.out.2⟩
  case round =>
    clear IN0 BR
    obtain ⟨t, r, e, rfl, ht, hX, hR, hA, hK⟩ := hrel
    obtain ⟨I, hI⟩ : ∃ I, Hid (I = i0 + t) := ⟨_, rfl⟩
    rw [← hI.out]
    by_cases h3 : t < 3
    rotate_left
    · have gI : ¬ (I : Int) ≤ (J1 : Int) := by have := hI.out; omega
      obtain rfl : t = 3 := by omega
      have ET : Hid (e = T) := hR
      have RES : Hid (IsA wr base g N cap e ∧ Kp [g] w wr) := ⟨hA, hK⟩
      clear hA hK hX hR
      go_wp2_with fail
      go_end0
      rw [← ET.out]
      exact ⟨rfl, RES.out⟩
    have gI : (I : Int) ≤ (J1 : Int) := by have := hI.out; omega
    have wI : IntKind.i64.wrap ((I : Int) + 1) = ((i0 + (t + 1) : Nat) : Int) := by have := hI.out; rw [IntKind.wrap_i64]; omega
    obtain ⟨R, hRr⟩ : ∃ R : Nat, Hid (R = r.toNat) := ⟨_, rfl⟩
    have lR : R < 18446744073709551616 := by rw [hRr.out]; exact r.toNat_lt
    obtain ⟨R', hR'⟩ : ∃ R' : Nat, Hid (R' = Go.Sort.xorNextN R) := ⟨_, rfl⟩
    have lR' : R' < 18446744073709551616 := by rw [hR'.out]; exact Go.Sort.xorNextN_lt R lR
    obtain ⟨O, hO⟩ : ∃ O : Nat, Hid (O = R' &&& (M - 1)) := ⟨_, rfl⟩
    have lO : O ≤ M - 1 := by rw [hO.out]; exact Nat.and_le_right
    have eAnd : bits .and .u64 (R' : Int) ((M - 1 : Nat) : Int) = (O : Int) := by rw [bits_and_u64_nat _ _ lR' (by omega), hO.out]
    have uO : IntKind.i64.wrap (O : Int) = (O : Int) := by rw [IntKind.wrap_i64]; omega
    have HN : Hid (O = (Go.Sort.xorNext r).toNat &&& (M - 1) ∧ R' = (Go.Sort.xorNext r).toNat) := by
      have e : R' = (Go.Sort.xorNext r).toNat := by rw [hR'.out, hRr.out, Go.Sort.xorNext_toNat]
      exact ⟨by rw [hO.out, e], e⟩
    rw [← hRr.out] at hX
    have NX := xnext_any w.heap.size R lR wr hX.c0 hX.fz
    rw [← hR'.out] at NX
    have WD : Hid (∀ k, IsX ((wr.setCell ⟨w.heap.size, 0, none⟩ (.int .u64 (R' : Int))).drewN k) w.heap.size R' ∧ IsA ((wr.setCell ⟨w.heap.size, 0, none⟩ (.int .u64 (R' : Int))).drewN k) base g N cap e ∧ Kp [g] w ((wr.setCell ⟨w.heap.size, 0, none⟩ (.int .u64 (R' : Int))).drewN k)) := fun k => by
      have k1 : Kp [w.heap.size] wr ((wr.setCell ⟨w.heap.size, 0, none⟩ (.int .u64 (R' : Int))).drewN k) := ((Kp.refl _ _).set _ _ (.inl (by simp))).trans (Kp.of (below_drewN (Below.refl _ _) k))
      exact ⟨hX.set R' k, hA.kp k1 (by simp; omega), hK.fresh k1 (by intro i hi; simp at hi; right; omega)⟩
    obtain ⟨M1, hM1'⟩ : ∃ M1, Hid (M1 = M - 1) := ⟨_, rfl⟩
    rw [← hM1'.out] at wM eAnd
    clear hA hK hX hRr hR'
    go_wp2_with fail
    refine NX.mono ?_
    rintro e9 x ⟨rfl, rfl⟩
    clear NX
    obtain ⟨X3, A3, K3⟩ := WD.out 3
    clear WD
    obtain ⟨Z, hZ⟩ : ∃ Z, Hid (Z = (wr.setCell ⟨w.heap.size, 0, none⟩ (.int .u64 (R' : Int))).drewN 3) := ⟨_, rfl⟩
    rw [← hZ.out] at X3 A3 K3 ⊢
    by_cases hLO : L ≤ O
    · have gO : (L : Int) ≤ (O : Int) := by omega
      obtain ⟨O2, hO2⟩ : ∃ Q, Hid (Q = O - L) := ⟨_, rfl⟩
      have wO : IntKind.i64.wrap ((O : Int) - (L : Int)) = (O2 : Int) := by have := hO2.out; rw [IntKind.wrap_i64]; omega
      have lO2 : O2 < L := by have := hO2.out; omega
      obtain ⟨P, hP⟩ : ∃ P, Hid (P = a + O2) := ⟨_, rfl⟩
      have wP : IntKind.i64.wrap ((a : Int) + (O2 : Int)) = (P : Int) := by have := hP.out; rw [IntKind.wrap_i64]; omega
      have SW := swapA A3 I P (by have := hI.out; omega) (by have := hP.out; have := hL.out; omega)
      have HK : Hid (Kp [g] w Z ∧ IsX Z w.heap.size R') := ⟨K3, X3⟩
      clear A3 K3 X3
      go_wp2_with fail
      refine SW.mono ?_
      rintro e9 z2 ⟨rfl, A2, k2⟩
      clear SW
      have R2 : Hid (IsX z2 w.heap.size (Go.Sort.xorNext r).toNat ∧ bpRest a L M i0 (3 - (t + 1)) (t + 1) (Go.Sort.xorNext r, Go.Sort.swp e (i0 + t) (a + O2)) = T ∧ IsA z2 base g N cap (Go.Sort.swp e (i0 + t) (a + O2)) ∧ Kp [g] w z2) := by
        refine ⟨by rw [← HN.out.2]; exact HK.out.2.kp k2 (by simp; omega), ?_, by rw [← hI.out, ← hP.out]; exact A2, HK.out.1.trans k2⟩
        rw [← hR, bp_step a L M i0 t r e O2 h3 (by rw [← HN.out.1, if_pos hLO, hO2.out])]
      clear A2 k2 HK hR
      go_wp2_with fail
      exact ⟨⟨t + 1, _, _, rfl, by omega, R2.out⟩, by simp [intOf]; have := hI.out; omega⟩
    · have gO : ¬ (L : Int) ≤ (O : Int) := by omega
      have lO2 : O < L := by omega
      obtain ⟨P, hP⟩ : ∃ P, Hid (P = a + O) := ⟨_, rfl⟩
      have wP : IntKind.i64.wrap ((a : Int) + (O : Int)) = (P : Int) := by have := hP.out; rw [IntKind.wrap_i64]; omega
      have SW := swapA A3 I P (by have := hI.out; omega) (by have := hP.out; have := hL.out; omega)
      have HK : Hid (Kp [g] w Z ∧ IsX Z w.heap.size R') := ⟨K3, X3⟩
      clear A3 K3 X3
      go_wp2_with fail
      refine SW.mono ?_
      rintro e9 z2 ⟨rfl, A2, k2⟩
      clear SW
      have R2 : Hid (IsX z2 w.heap.size (Go.Sort.xorNext r).toNat ∧ bpRest a L M i0 (3 - (t + 1)) (t + 1) (Go.Sort.xorNext r, Go.Sort.swp e (i0 + t) (a + O)) = T ∧ IsA z2 base g N cap (Go.Sort.swp e (i0 + t) (a + O)) ∧ Kp [g] w z2) := by
        refine ⟨by rw [← HN.out.2]; exact HK.out.2.kp k2 (by simp; omega), ?_, by rw [← hI.out, ← hP.out]; exact A2, HK.out.1.trans k2⟩
        rw [← hR, bp_step a L M i0 t r e O h3 (by rw [← HN.out.1, if_neg hLO])]
      clear A2 k2 HK hR
      go_wp2_with fail
      exact ⟨⟨t + 1, _, _, rfl, by omega, R2.out⟩, by simp [intOf]; have := hI.out; omega⟩
#print axioms breakPatterns_any
end Go.Proofs.Ytndlpjfofjikeaa
