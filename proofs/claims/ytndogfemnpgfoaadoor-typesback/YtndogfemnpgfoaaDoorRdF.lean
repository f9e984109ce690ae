/-
  together as a function, and the walk of readSize, of both layouts.
  The walks of readNaN and readFloat, of both sizes.
  readValue at every kind, and Value of any text of any type.
-/
import Derived.Test.YtndogfemnpgfoaaDoorRd8
import Derived.Test.YtndogfemnpgfoaaDoorTogS
import Derived.Test.YtndogfemnpgfoaaDoorWide
import Derived.Deep.RegionHeld3
import Derived.Test.YtndogfemnpgfoaaDoorRd6
import Derived.Test.YtndogfemnpgfoaaDoorValI
namespace Go.Proofs.YtndogfemnpgfoaaDoor
open Pl Go.RowKit

/-- The bits of M times 2^E, M odd and of L bits, in a layout of so many bits of fraction; none: it is no float there. -/
def togM (fb : Nat) (bias E : Int) (M L : Nat) : Option Nat :=
  if E < 1 - bias - fb ∨ bias < E + L - 1 ∨ fb + 1 < L then none
  else if E + L - 1 < 1 - bias then some (M * 2 ^ (E - (1 - bias - fb)).toNat)
  else some ((E + L - 1 + bias).toNat * 2 ^ fb + (M * 2 ^ (fb + 1 - L) - 2 ^ fb))
/-- The bits of m times 2^e. -/
def togV (fb : Nat) (bias : Int) (m : Nat) (e : Int) : Option Nat :=
  if m = 0 then some 0 else togM fb bias (e + (Lib.ctz 64 m : Int)) (m / 2 ^ Lib.ctz 64 m) (Lib.bitLen (m / 2 ^ Lib.ctz 64 m))

/-- How together ends. -/
def endT : Option Nat → Value
  | some n => .tuple #[.int .u64 (n : Int), .bool true]
  | none => .tuple #[.int .u64 0, .bool false]
/-- A number of 64 bits with its sign. -/
def toI (q : Nat) : Int := if q < 9223372036854775808 then (q : Int) else (q : Int) - 18446744073709551616
theorem toI_wrap (q : Nat) (h : q < 18446744073709551616) : IntKind.i64.wrap (q : Int) = toI q := by
  rw [IntKind.wrap_i64]
  unfold toI
  split <;> omega
theorem sgnV_bd (l : List UInt8) (q : Nat) (h : sgnV 9999 9999 l = some q) : q < 18446744073709551616 ∧ -9999 ≤ toI q ∧ toI q ≤ 9999 := by
  have hd : ∀ (l : List UInt8) (n : Nat), decV 9999 l = some n → n ≤ 9999 := fun l n hn => by
    unfold decV at hn
    split at hn
    · exact decFold_le 9999 _ 0 n (Nat.zero_le _) hn
    · simp at hn
  unfold sgnV at h
  split at h
  · cases hv : decV 9999 l.tail with
    | none => rw [hv] at h; simp at h
    | some n =>
      have := hd _ _ hv
      rw [hv] at h
      by_cases h0 : n = 0
      · simp [h0] at h
      · simp [h0] at h
        subst h
        unfold toI
        rw [if_neg (by omega)]
        omega
  · have := hd _ _ h
    unfold toI
    rw [if_pos (by omega)]
    omega
/-- The bits of a float without a sign. -/
def szV (fb : Nat) (bias : Int) (inf : Nat) (l : List UInt8) : Option Nat :=
  if l = [105, 110, 102] then some inf
  else (cutU 112 l).bind fun p => (sgnV 9999 9999 p.2).bind fun q => (decV 18446744073709551615 p.1).bind fun m => togV fb bias m (toI q)

theorem tog64_any (m : Nat) (e : Int) (w : World) (hm : m < 18446744073709551616) (he0 : -10000 ≤ e) (he1 : e ≤ 10000) (hT : Tab64 w) :
    Calls Tryd.prog 68 #[.agg #[.int .i64 52, .int .i64 1023], .int .u64 (m : Int), .int .i64 e] w fun r w' => r = .returned (endT (togV 52 1023 m e)) ∧ Below w.heap.size w w' := by
  by_cases h0 : m = 0
  · subst h0
    exact together0_64 e w
  obtain ⟨M, z, L, hg, hz, hmz, hodd, hL1, hL64, hM1, hM2, hM64⟩ := ctz_split m h0 hm
  have hV : togV 52 1023 m e = togM 52 1023 (e + (z : Int)) M L := by
    unfold togV
    rw [if_neg h0, hg.hz, hg.hM, hg.hL]
  rw [hV]
  have hg' : Tog64 m e M z L := ⟨hg.m0, hg.m1, he0, he1, hg.hz, hg.hM, hg.hL⟩
  unfold togM
  by_cases c1 : e + (z : Int) < 1 - 1023 - (52 : Nat) ∨ (1023 : Int) < e + (z : Int) + L - 1 ∨ 52 + 1 < L
  · rw [if_pos c1]
    exact togetherBad64 m e M z L _ w hg' hT rfl hz hL64 hM64 (by omega)
  rw [if_neg c1]
  obtain ⟨k, hk⟩ : ∃ k : Nat, e + (z : Int) = (k : Int) - 1074 := ⟨(e + (z : Int) + 1074).toNat, by omega⟩
  by_cases c2 : e + (z : Int) + L - 1 < 1 - 1023
  · rw [if_pos c2]
    have e1 : (e + (z : Int) - (1 - 1023 - (52 : Nat))).toNat = k := by omega
    rw [e1]
    have hs := (tog_small 52 k L M hM2 (by omega)).1
    exact togetherLow64 m e M z L k w hg' hT hk hz (by omega) (by omega) hM64 hs
  · rw [if_neg c2]
    have e1 : (e + (z : Int) + L - 1 + 1023).toNat = k + L - 52 := by omega
    rw [e1]
    obtain ⟨t1, t2, t3⟩ := tog_big 52 k L M hM1 hM2 hL1 (by omega) (by omega)
    exact togetherHigh64 m e M z L k w hg' hT hk hz (by omega) (by omega) (by omega) hM64 ⟨t1, t2⟩

set_option linter.unusedSimpArgs false in
set_option maxHeartbeats 4000000 in
set_option maxRecDepth 100000 in
theorem sizeRd64_any (l : List UInt8) (w : World) (hl : l.length ≤ 1000000) (hT : Tab64 w) :
    Calls Tryd.prog 61 #[.string (str l), .agg #[.int .i64 52, .int .i64 1023]] w fun e w' => e = endU (szV 52 1023 9218868437227405312 l) ∧ Below w.heap.size w w' := by
  have hc := fun w => cutC_any 112 l w hl
  unfold cutT at hc
  obtain ⟨sl, HSL, hsl, _, _⟩ := str_facts l
  rw [HSL.out] at hc ⊢
  by_cases a0 : l = [105, 110, 102]
  · have HE : Hid (endU (szV 52 1023 9218868437227405312 l) = .returned (.int .u64 9218868437227405312)) := by show _ = _; unfold szV; rw [if_pos a0]; rfl
    rw [HE.out]
    have b0 : (l == [105, 110, 102]) = true := by simp [a0]
    clear hc HE
    go_enter Tryd.func61, Tryd.ntmps61
    go_wp2_with fail
    refine (infinity64 _).mono ?_
    rintro e w1 ⟨rfl, HW⟩
    have hb : Below w.heap.size w w1 := by rw [← HW]; exact Below.al (Below.al (Below.refl _ _) _) _
    clear HW
    go_wp2_with fail
    go_ret
    exact ⟨rfl, hb⟩
  have b0 : (l == [105, 110, 102]) = false := by simp [a0]
  have SZ : Hid (szV 52 1023 9218868437227405312 l = (cutU 112 l).bind fun p => (sgnV 9999 9999 p.2).bind fun q => (decV 18446744073709551615 p.1).bind fun m => togV 52 1023 m (toI q)) := by show _ = _; unfold szV; rw [if_neg a0]
  rw [SZ.out]
  clear SZ
  cases hq : cutU 112 l with
  | none =>
    rw [hq] at hc
    have HC : Hid (∀ w : World, Calls Tryd.prog 63 #[.string sl, .string ⟨#[112]⟩] w fun e w' => e = .returned (.tuple #[.string sl, .string ⟨#[]⟩, .bool false]) ∧ Below w.heap.size w w') := hc
    show Calls _ _ _ _ fun e w' => e = .panicked bad ∧ Below w.heap.size w w'
    clear hc hq
    go_enter Tryd.func61, Tryd.ntmps61
    go_wp2_with fail
    refine (HC.out _).mono ?_
    rintro e w1 ⟨rfl, hb⟩
    have hb : Below w.heap.size w w1 := Below.andThen (Below.al (Below.refl _ _) _) hb
    go_wp2_with fail
    refine (must_false _).mono ?_
    rintro e w1 ⟨rfl, rfl⟩
    go_wp2_with fail
    exact ⟨rfl, rfl, hb⟩
  | some p =>
    obtain ⟨m, x⟩ := p
    rw [hq] at hc
    have he := cutU_eq 112 l _ hq
    have hlen : l.length = m.length + 1 + x.length := by rw [he]; simp; omega
    have h1 := fun w => signedRd_any x 9999 9999 w (by decide) (by decide) (by omega)
    have h2 := fun w => decimal_any m 18446744073709551615 w (by decide) (by omega)
    have BD := fun q h => sgnV_bd x q h
    have DM : Hid (∀ n, decV 18446744073709551615 m = some n → n < 18446744073709551616) := fun n hn => by
      unfold decV at hn
      split at hn
      · have := decFold_le 18446744073709551615 _ 0 n (Nat.zero_le _) hn; omega
      · simp at hn
    show Calls _ _ _ _ fun e w' => e = endU ((sgnV 9999 9999 x).bind fun q => (decV 18446744073709551615 m).bind fun m => togV 52 1023 m (toI q)) ∧ Below w.heap.size w w'
    dsimp only at hc
    clear he hlen hq a0
    generalize str m = sm at *
    generalize str x = sx at *
    have HC : Hid (∀ w : World, Calls Tryd.prog 63 #[.string sl, .string ⟨#[112]⟩] w fun e w' => e = .returned (.tuple #[.string sm, .string sx, .bool true]) ∧ Below w.heap.size w w') := hc
    clear hc
    generalize sgnV 9999 9999 x = v1 at *
    generalize decV 18446744073709551615 m = v2 at *
    cases v1 with
    | none =>
      have H1 : Hid (∀ w : World, Calls Tryd.prog 34 #[.string sx, .int .u64 9999, .int .u64 9999] w fun e w' => e = .panicked bad ∧ w' = w) := h1
      clear h1 h2 BD
      show Calls _ _ _ _ fun e w' => e = .panicked bad ∧ Below w.heap.size w w'
      go_enter Tryd.func61, Tryd.ntmps61
      go_wp2_with fail
      refine (HC.out _).mono ?_
      rintro e w1 ⟨rfl, hb⟩
      have hb : Below w.heap.size w w1 := Below.andThen (Below.al (Below.refl _ _) _) hb
      go_wp2_with fail
      refine (must_true _).mono ?_
      rintro e w1 ⟨rfl, rfl⟩
      go_wp2_with fail
      refine (H1.out _).mono ?_
      rintro e w1 ⟨rfl, rfl⟩
      go_wp2_with fail
      exact ⟨rfl, rfl, hb⟩
    | some q =>
      have H1 : Hid (∀ w : World, Calls Tryd.prog 34 #[.string sx, .int .u64 9999, .int .u64 9999] w fun e w' => e = .returned (.int .u64 (q : Int)) ∧ w' = w) := h1
      obtain ⟨q0, q1, q2⟩ := BD q rfl
      have wq := toI_wrap q q0
      show Calls _ _ _ _ fun e w' => e = endU (v2.bind fun m => togV 52 1023 m (toI q)) ∧ Below w.heap.size w w'
      generalize toI q = ee at *
      clear h1 BD
      have BX : Hid (∀ w1 : World, Below (w.alloc (.cells #[.int .i64 52, .int .i64 1023] 92)).heap.size (w.alloc (.cells #[.int .i64 52, .int .i64 1023] 92)) w1 → w1.cell? ⟨w.heap.size, 0, none⟩ = some (.int .i64 52) ∧ w1.cell? ⟨w.heap.size, 1, none⟩ = some (.int .i64 1023) ∧ Below w.heap.size w w1) := fun w1 hb =>
        ⟨(hb.cell (by simp <;> omega)).trans (by simp [go_sem]), (hb.cell (by simp <;> omega)).trans (by simp [go_sem]), Below.andThen (Below.al (Below.refl _ _) _) hb⟩
      cases v2 with
      | none =>
        have H2 : Hid (∀ w : World, Calls Tryd.prog 58 #[.string sm, .int .u64 18446744073709551615] w fun e w' => e = .panicked bad ∧ w' = w) := h2
        clear h2
        show Calls _ _ _ _ fun e w' => e = .panicked bad ∧ Below w.heap.size w w'
        go_enter Tryd.func61, Tryd.ntmps61
        go_wp2_with fail
        refine (HC.out _).mono ?_
        rintro e w1 ⟨rfl, hb0⟩
        obtain ⟨c0, c1, hb⟩ := BX.out w1 hb0
        clear hb0 BX
        go_wp2_with fail
        refine (must_true _).mono ?_
        rintro e w1 ⟨rfl, rfl⟩
        go_wp2_with fail
        refine (H1.out _).mono ?_
        rintro e w1 ⟨rfl, rfl⟩
        go_wp2_with fail
        refine wp_region_held_drew (S := fun x => Below w.heap.size w x ∧ x.cell? ⟨w.heap.size, 0, none⟩ = some (.int .i64 52) ∧ x.cell? ⟨w.heap.size, 1, none⟩ = some (.int .i64 1023)) (by kernel_rfl) ⟨Below.drew hb, c0, c1⟩ (fun hHeld => ?_)
        refine wpAnyH_take (i := 0) (v := (.agg #[.int .i64 52, .int .i64 1023])) rfl (by kernel_rfl) (by kernel_rfl) (by kernel_rfl) (fun _ _ _ h => h) (Or.inl ⟨by rfl, ?_⟩) (by assumption) ?_
        · intro w9 hSw
          try dsimp only at hSw
          go_simp
        try simp only [Act.put, List.getElem_toArray, List.getElem_cons_succ, List.getElem_cons_zero, List.setIfInBounds_toArray, List.set_cons_zero, List.set_cons_succ]
        refine wpAnyH_take (i := 1) (v := (.string sm)) rfl (by kernel_rfl) (by kernel_rfl) (by kernel_rfl) (fun _ _ _ h => h) (Or.inl ⟨by rfl, ?_⟩) (by assumption) ?_
        · intro w9 hSw
          try dsimp only at hSw
          go_simp
        try simp only [Act.put, List.getElem_toArray, List.getElem_cons_succ, List.getElem_cons_zero, List.setIfInBounds_toArray, List.set_cons_zero, List.set_cons_succ]
        refine wpAnyH_take (i := 3) (v := (.int .i64 ee)) rfl (by kernel_rfl) (by kernel_rfl) (by kernel_rfl) (fun _ _ _ h => h) (Or.inl ⟨by rfl, ?_⟩) (by assumption) ?_
        · intro w9 hSw
          try dsimp only at hSw
          go_simp
        try simp only [Act.put, List.getElem_toArray, List.getElem_cons_succ, List.getElem_cons_zero, List.setIfInBounds_toArray, List.set_cons_zero, List.set_cons_succ]
        refine wpAnyH_ready (rs := [2]) (by kernel_rfl) (by simp) ?_
        refine AllReadyH.cons rfl (fun K' hK => ?_) AllReadyH.nil
        rw [if_pos (by rfl)]
        simp only [List.getElem_toArray, List.getElem_cons_succ, List.getElem_cons_zero]
        go_wp2_with fail
        refine (H2.out _).mono ?_
        rintro e z ⟨rfl, rfl⟩
        go_wp2_with fail
        exact ⟨rfl, rfl, hHeld.1⟩
      | some n =>
        have H2 : Hid (∀ w : World, Calls Tryd.prog 58 #[.string sm, .int .u64 18446744073709551615] w fun e w' => e = .returned (.int .u64 (n : Int)) ∧ w' = w) := h2
        have n1 := DM.out n rfl
        have H3 := fun w hT => tog64_any n ee w n1 (by omega) (by omega) hT
        show Calls _ _ _ _ fun e w' => e = endU (togV 52 1023 n ee) ∧ Below w.heap.size w w'
        generalize togV 52 1023 n ee = v3 at *
        have old := hT.old
        clear h2 DM n1
        cases v3 with
        | none =>
          have H3' : Hid (∀ w, Tab64 w → Calls Tryd.prog 68 #[.agg #[.int .i64 52, .int .i64 1023], .int .u64 (n : Int), .int .i64 ee] w fun r w' => r = .returned (.tuple #[.int .u64 0, .bool false]) ∧ Below w.heap.size w w') := H3
          clear H3
          show Calls _ _ _ _ fun e w' => e = .panicked bad ∧ Below w.heap.size w w'
          go_enter Tryd.func61, Tryd.ntmps61
          go_wp2_with fail
          refine (HC.out _).mono ?_
          rintro e w1 ⟨rfl, hb0⟩
          obtain ⟨c0, c1, hb⟩ := BX.out w1 hb0
          clear hb0 BX
          go_wp2_with fail
          refine (must_true _).mono ?_
          rintro e w1 ⟨rfl, rfl⟩
          go_wp2_with fail
          refine (H1.out _).mono ?_
          rintro e w1 ⟨rfl, rfl⟩
          go_wp2_with fail
          refine wp_region_held_drew (S := fun x => Below w.heap.size w x ∧ x.cell? ⟨w.heap.size, 0, none⟩ = some (.int .i64 52) ∧ x.cell? ⟨w.heap.size, 1, none⟩ = some (.int .i64 1023)) (by kernel_rfl) ⟨Below.drew hb, c0, c1⟩ (fun hHeld => ?_)
          refine wpAnyH_take (i := 0) (v := (.agg #[.int .i64 52, .int .i64 1023])) rfl (by kernel_rfl) (by kernel_rfl) (by kernel_rfl) (fun _ _ _ h => h) (Or.inl ⟨by rfl, ?_⟩) (by assumption) ?_
          · intro w9 hSw
            try dsimp only at hSw
            go_simp
          try simp only [Act.put, List.getElem_toArray, List.getElem_cons_succ, List.getElem_cons_zero, List.setIfInBounds_toArray, List.set_cons_zero, List.set_cons_succ]
          refine wpAnyH_take (i := 1) (v := (.string sm)) rfl (by kernel_rfl) (by kernel_rfl) (by kernel_rfl) (fun _ _ _ h => h) (Or.inl ⟨by rfl, ?_⟩) (by assumption) ?_
          · intro w9 hSw
            try dsimp only at hSw
            go_simp
          try simp only [Act.put, List.getElem_toArray, List.getElem_cons_succ, List.getElem_cons_zero, List.setIfInBounds_toArray, List.set_cons_zero, List.set_cons_succ]
          refine wpAnyH_take (i := 3) (v := (.int .i64 ee)) rfl (by kernel_rfl) (by kernel_rfl) (by kernel_rfl) (fun _ _ _ h => h) (Or.inl ⟨by rfl, ?_⟩) (by assumption) ?_
          · intro w9 hSw
            try dsimp only at hSw
            go_simp
          try simp only [Act.put, List.getElem_toArray, List.getElem_cons_succ, List.getElem_cons_zero, List.setIfInBounds_toArray, List.set_cons_zero, List.set_cons_succ]
          refine wpAnyH_ready (rs := [2]) (by kernel_rfl) (by simp) ?_
          refine AllReadyH.cons rfl (fun K' hK => ?_) AllReadyH.nil
          rw [if_pos (by rfl)]
          simp only [List.getElem_toArray, List.getElem_cons_succ, List.getElem_cons_zero]
          go_wp2_with fail
          refine (H2.out _).mono ?_
          rintro e z ⟨rfl, rfl⟩
          try go_wp2_with fail
          refine hK.out _ _ hHeld (fun hHeld => ?_)
          clear hK K'
          try simp only [Act.put, List.getElem_toArray, List.getElem_cons_succ, List.getElem_cons_zero, List.setIfInBounds_toArray, List.set_cons_zero, List.set_cons_succ]
          refine wpAnyH_ready (rs := [4]) (by kernel_rfl) (by simp) ?_
          refine AllReadyH.cons rfl (fun K' hK => ?_) AllReadyH.nil
          rw [if_pos (by rfl)]
          simp only [List.getElem_toArray, List.getElem_cons_succ, List.getElem_cons_zero]
          go_wp2_with fail
          refine (H3'.out _ (hT.below (And.left hHeld) old)).mono ?_
          rintro e z2 ⟨rfl, hbx⟩
          try go_wp2_with fail
          have hHeld : Below w.heap.size w z2 ∧ z2.cell? ⟨w.heap.size, 0, none⟩ = some (.int .i64 52) ∧ z2.cell? ⟨w.heap.size, 1, none⟩ = some (.int .i64 1023) := ⟨Below.andThen hHeld.1 hbx, (hbx.cell (p := ⟨w.heap.size, 0, none⟩) (block_lt_of_cell hHeld.2.1)).trans hHeld.2.1, (hbx.cell (p := ⟨w.heap.size, 1, none⟩) (block_lt_of_cell hHeld.2.2)).trans hHeld.2.2⟩
          refine hK.out _ _ hHeld (fun hHeld => ?_)
          clear hK K'
          try simp only [Act.put, List.getElem_toArray, List.getElem_cons_succ, List.getElem_cons_zero, List.setIfInBounds_toArray, List.set_cons_zero, List.set_cons_succ]
          refine wpAnyH_take (i := 5) (v := (.tuple #[.int .u64 0, .bool false])) rfl (by kernel_rfl) (by kernel_rfl) (by kernel_rfl) (fun _ _ _ h => h) (Or.inl ⟨by rfl, ?_⟩) (by assumption) ?_
          · intro w9 hSw
            try dsimp only at hSw
            go_simp
          try simp only [Act.put, List.getElem_toArray, List.getElem_cons_succ, List.getElem_cons_zero, List.setIfInBounds_toArray, List.set_cons_zero, List.set_cons_succ]
          refine wpAnyH_take (i := 6) (v := (.int .u64 0)) rfl (by kernel_rfl) (by kernel_rfl) (by kernel_rfl) (fun _ _ _ h => h) (Or.inl ⟨by rfl, ?_⟩) (by assumption) ?_
          · intro w9 hSw
            try dsimp only at hSw
            go_simp
          try simp only [Act.put, List.getElem_toArray, List.getElem_cons_succ, List.getElem_cons_zero, List.setIfInBounds_toArray, List.set_cons_zero, List.set_cons_succ]
          refine wpAnyH_take (i := 7) (v := (.bool false)) rfl (by kernel_rfl) (by kernel_rfl) (by kernel_rfl) (fun _ _ _ h => h) (Or.inl ⟨by rfl, ?_⟩) (by assumption) ?_
          · intro w9 hSw
            try dsimp only at hSw
            go_simp
          try simp only [Act.put, List.getElem_toArray, List.getElem_cons_succ, List.getElem_cons_zero, List.setIfInBounds_toArray, List.set_cons_zero, List.set_cons_succ]
          refine wpAnyH_take (i := 8) (v := (.int .u64 0)) rfl (by kernel_rfl) (by kernel_rfl) (by kernel_rfl) (fun _ _ _ h => h) (Or.inl ⟨by rfl, ?_⟩) (by assumption) ?_
          · intro w9 hSw
            try dsimp only at hSw
            go_simp
          try simp only [Act.put, List.getElem_toArray, List.getElem_cons_succ, List.getElem_cons_zero, List.setIfInBounds_toArray, List.set_cons_zero, List.set_cons_succ]
          refine wpAnyH_take (i := 9) (v := (.bool false)) rfl (by kernel_rfl) (by kernel_rfl) (by kernel_rfl) (fun _ _ _ h => h) (Or.inl ⟨by rfl, ?_⟩) (by assumption) ?_
          · intro w9 hSw
            try dsimp only at hSw
            go_simp
          try simp only [Act.put, List.getElem_toArray, List.getElem_cons_succ, List.getElem_cons_zero, List.setIfInBounds_toArray, List.set_cons_zero, List.set_cons_succ]
          refine wpAnyH_done (by kernel_rfl) ?_ _
          go_wp2_with fail
          refine (must_false _).mono ?_
          rintro e y ⟨rfl, rfl⟩
          go_wp2_with fail
          exact ⟨rfl, rfl, hHeld.1⟩
        | some R =>
          have H3' : Hid (∀ w, Tab64 w → Calls Tryd.prog 68 #[.agg #[.int .i64 52, .int .i64 1023], .int .u64 (n : Int), .int .i64 ee] w fun r w' => r = .returned (.tuple #[.int .u64 (R : Int), .bool true]) ∧ Below w.heap.size w w') := H3
          clear H3
          show Calls _ _ _ _ fun e w' => e = .returned (.int .u64 (R : Int)) ∧ Below w.heap.size w w'
          go_enter Tryd.func61, Tryd.ntmps61
          go_wp2_with fail
          refine (HC.out _).mono ?_
          rintro e w1 ⟨rfl, hb0⟩
          obtain ⟨c0, c1, hb⟩ := BX.out w1 hb0
          clear hb0 BX
          go_wp2_with fail
          refine (must_true _).mono ?_
          rintro e w1 ⟨rfl, rfl⟩
          go_wp2_with fail
          refine (H1.out _).mono ?_
          rintro e w1 ⟨rfl, rfl⟩
          go_wp2_with fail
          refine wp_region_held_drew (S := fun x => Below w.heap.size w x ∧ x.cell? ⟨w.heap.size, 0, none⟩ = some (.int .i64 52) ∧ x.cell? ⟨w.heap.size, 1, none⟩ = some (.int .i64 1023)) (by kernel_rfl) ⟨Below.drew hb, c0, c1⟩ (fun hHeld => ?_)
          refine wpAnyH_take (i := 0) (v := (.agg #[.int .i64 52, .int .i64 1023])) rfl (by kernel_rfl) (by kernel_rfl) (by kernel_rfl) (fun _ _ _ h => h) (Or.inl ⟨by rfl, ?_⟩) (by assumption) ?_
          · intro w9 hSw
            try dsimp only at hSw
            go_simp
          try simp only [Act.put, List.getElem_toArray, List.getElem_cons_succ, List.getElem_cons_zero, List.setIfInBounds_toArray, List.set_cons_zero, List.set_cons_succ]
          refine wpAnyH_take (i := 1) (v := (.string sm)) rfl (by kernel_rfl) (by kernel_rfl) (by kernel_rfl) (fun _ _ _ h => h) (Or.inl ⟨by rfl, ?_⟩) (by assumption) ?_
          · intro w9 hSw
            try dsimp only at hSw
            go_simp
          try simp only [Act.put, List.getElem_toArray, List.getElem_cons_succ, List.getElem_cons_zero, List.setIfInBounds_toArray, List.set_cons_zero, List.set_cons_succ]
          refine wpAnyH_take (i := 3) (v := (.int .i64 ee)) rfl (by kernel_rfl) (by kernel_rfl) (by kernel_rfl) (fun _ _ _ h => h) (Or.inl ⟨by rfl, ?_⟩) (by assumption) ?_
          · intro w9 hSw
            try dsimp only at hSw
            go_simp
          try simp only [Act.put, List.getElem_toArray, List.getElem_cons_succ, List.getElem_cons_zero, List.setIfInBounds_toArray, List.set_cons_zero, List.set_cons_succ]
          refine wpAnyH_ready (rs := [2]) (by kernel_rfl) (by simp) ?_
          refine AllReadyH.cons rfl (fun K' hK => ?_) AllReadyH.nil
          rw [if_pos (by rfl)]
          simp only [List.getElem_toArray, List.getElem_cons_succ, List.getElem_cons_zero]
          go_wp2_with fail
          refine (H2.out _).mono ?_
          rintro e z ⟨rfl, rfl⟩
          try go_wp2_with fail
          refine hK.out _ _ hHeld (fun hHeld => ?_)
          clear hK K'
          try simp only [Act.put, List.getElem_toArray, List.getElem_cons_succ, List.getElem_cons_zero, List.setIfInBounds_toArray, List.set_cons_zero, List.set_cons_succ]
          refine wpAnyH_ready (rs := [4]) (by kernel_rfl) (by simp) ?_
          refine AllReadyH.cons rfl (fun K' hK => ?_) AllReadyH.nil
          rw [if_pos (by rfl)]
          simp only [List.getElem_toArray, List.getElem_cons_succ, List.getElem_cons_zero]
          go_wp2_with fail
          refine (H3'.out _ (hT.below (And.left hHeld) old)).mono ?_
          rintro e z2 ⟨rfl, hbx⟩
          try go_wp2_with fail
          have hHeld : Below w.heap.size w z2 ∧ z2.cell? ⟨w.heap.size, 0, none⟩ = some (.int .i64 52) ∧ z2.cell? ⟨w.heap.size, 1, none⟩ = some (.int .i64 1023) := ⟨Below.andThen hHeld.1 hbx, (hbx.cell (p := ⟨w.heap.size, 0, none⟩) (block_lt_of_cell hHeld.2.1)).trans hHeld.2.1, (hbx.cell (p := ⟨w.heap.size, 1, none⟩) (block_lt_of_cell hHeld.2.2)).trans hHeld.2.2⟩
          refine hK.out _ _ hHeld (fun hHeld => ?_)
          clear hK K'
          try simp only [Act.put, List.getElem_toArray, List.getElem_cons_succ, List.getElem_cons_zero, List.setIfInBounds_toArray, List.set_cons_zero, List.set_cons_succ]
          refine wpAnyH_take (i := 5) (v := (.tuple #[.int .u64 (R : Int), .bool true])) rfl (by kernel_rfl) (by kernel_rfl) (by kernel_rfl) (fun _ _ _ h => h) (Or.inl ⟨by rfl, ?_⟩) (by assumption) ?_
          · intro w9 hSw
            try dsimp only at hSw
            go_simp
          try simp only [Act.put, List.getElem_toArray, List.getElem_cons_succ, List.getElem_cons_zero, List.setIfInBounds_toArray, List.set_cons_zero, List.set_cons_succ]
          refine wpAnyH_take (i := 6) (v := (.int .u64 (R : Int))) rfl (by kernel_rfl) (by kernel_rfl) (by kernel_rfl) (fun _ _ _ h => h) (Or.inl ⟨by rfl, ?_⟩) (by assumption) ?_
          · intro w9 hSw
            try dsimp only at hSw
            go_simp
          try simp only [Act.put, List.getElem_toArray, List.getElem_cons_succ, List.getElem_cons_zero, List.setIfInBounds_toArray, List.set_cons_zero, List.set_cons_succ]
          refine wpAnyH_take (i := 7) (v := (.bool true)) rfl (by kernel_rfl) (by kernel_rfl) (by kernel_rfl) (fun _ _ _ h => h) (Or.inl ⟨by rfl, ?_⟩) (by assumption) ?_
          · intro w9 hSw
            try dsimp only at hSw
            go_simp
          try simp only [Act.put, List.getElem_toArray, List.getElem_cons_succ, List.getElem_cons_zero, List.setIfInBounds_toArray, List.set_cons_zero, List.set_cons_succ]
          refine wpAnyH_take (i := 8) (v := (.int .u64 (R : Int))) rfl (by kernel_rfl) (by kernel_rfl) (by kernel_rfl) (fun _ _ _ h => h) (Or.inl ⟨by rfl, ?_⟩) (by assumption) ?_
          · intro w9 hSw
            try dsimp only at hSw
            go_simp
          try simp only [Act.put, List.getElem_toArray, List.getElem_cons_succ, List.getElem_cons_zero, List.setIfInBounds_toArray, List.set_cons_zero, List.set_cons_succ]
          refine wpAnyH_take (i := 9) (v := (.bool true)) rfl (by kernel_rfl) (by kernel_rfl) (by kernel_rfl) (fun _ _ _ h => h) (Or.inl ⟨by rfl, ?_⟩) (by assumption) ?_
          · intro w9 hSw
            try dsimp only at hSw
            go_simp
          try simp only [Act.put, List.getElem_toArray, List.getElem_cons_succ, List.getElem_cons_zero, List.setIfInBounds_toArray, List.set_cons_zero, List.set_cons_succ]
          refine wpAnyH_done (by kernel_rfl) ?_ _
          go_wp2_with fail
          refine (must_true _).mono ?_
          rintro e y ⟨rfl, rfl⟩
          go_wp2_with fail
          go_ret
          exact ⟨rfl, hHeld.1⟩
#print axioms sizeRd64_any

theorem tog32_any (m : Nat) (e : Int) (w : World) (hm : m < 18446744073709551616) (he0 : -10000 ≤ e) (he1 : e ≤ 10000) (hT : Tab64 w) :
    Calls Tryd.prog 68 #[.agg #[.int .i64 23, .int .i64 127], .int .u64 (m : Int), .int .i64 e] w fun r w' => r = .returned (endT (togV 23 127 m e)) ∧ Below w.heap.size w w' := by
  by_cases h0 : m = 0
  · subst h0
    exact together0_32 e w
  obtain ⟨M, z, L, hg, hz, hmz, hodd, hL1, hL64, hM1, hM2, hM64⟩ := ctz_split m h0 hm
  have hV : togV 23 127 m e = togM 23 127 (e + (z : Int)) M L := by
    unfold togV
    rw [if_neg h0, hg.hz, hg.hM, hg.hL]
  rw [hV]
  have hg' : Tog32 m e M z L := ⟨hg.m0, hg.m1, he0, he1, hg.hz, hg.hM, hg.hL⟩
  unfold togM
  by_cases c1 : e + (z : Int) < 1 - 127 - (23 : Nat) ∨ (127 : Int) < e + (z : Int) + L - 1 ∨ 23 + 1 < L
  · rw [if_pos c1]
    exact togetherBad32 m e M z L _ w hg' hT rfl hz hL64 hM64 (by omega)
  rw [if_neg c1]
  obtain ⟨k, hk⟩ : ∃ k : Nat, e + (z : Int) = (k : Int) - 149 := ⟨(e + (z : Int) + 149).toNat, by omega⟩
  by_cases c2 : e + (z : Int) + L - 1 < 1 - 127
  · rw [if_pos c2]
    have e1 : (e + (z : Int) - (1 - 127 - (23 : Nat))).toNat = k := by omega
    rw [e1]
    have hs := (tog_small 23 k L M hM2 (by omega)).1
    exact togetherLow32 m e M z L k w hg' hT hk hz (by omega) (by omega) hM64 hs
  · rw [if_neg c2]
    have e1 : (e + (z : Int) + L - 1 + 127).toNat = k + L - 23 := by omega
    rw [e1]
    obtain ⟨t1, t2, t3⟩ := tog_big 23 k L M hM1 hM2 hL1 (by omega) (by omega)
    exact togetherHigh32 m e M z L k w hg' hT hk hz (by omega) (by omega) (by omega) hM64 ⟨t1, t2⟩

set_option linter.unusedSimpArgs false in
set_option maxHeartbeats 4000000 in
set_option maxRecDepth 100000 in
theorem sizeRd32_any (l : List UInt8) (w : World) (hl : l.length ≤ 1000000) (hT : Tab64 w) :
    Calls Tryd.prog 61 #[.string (str l), .agg #[.int .i64 23, .int .i64 127]] w fun e w' => e = endU (szV 23 127 2139095040 l) ∧ Below w.heap.size w w' := by
  have hc := fun w => cutC_any 112 l w hl
  unfold cutT at hc
  obtain ⟨sl, HSL, hsl, _, _⟩ := str_facts l
  rw [HSL.out] at hc ⊢
  by_cases a0 : l = [105, 110, 102]
  · have HE : Hid (endU (szV 23 127 2139095040 l) = .returned (.int .u64 2139095040)) := by show _ = _; unfold szV; rw [if_pos a0]; rfl
    rw [HE.out]
    have b0 : (l == [105, 110, 102]) = true := by simp [a0]
    clear hc HE
    go_enter Tryd.func61, Tryd.ntmps61
    go_wp2_with fail
    refine (infinity32 _).mono ?_
    rintro e w1 ⟨rfl, HW⟩
    have hb : Below w.heap.size w w1 := by rw [← HW]; exact Below.al (Below.al (Below.refl _ _) _) _
    clear HW
    go_wp2_with fail
    go_ret
    exact ⟨rfl, hb⟩
  have b0 : (l == [105, 110, 102]) = false := by simp [a0]
  have SZ : Hid (szV 23 127 2139095040 l = (cutU 112 l).bind fun p => (sgnV 9999 9999 p.2).bind fun q => (decV 18446744073709551615 p.1).bind fun m => togV 23 127 m (toI q)) := by show _ = _; unfold szV; rw [if_neg a0]
  rw [SZ.out]
  clear SZ
  cases hq : cutU 112 l with
  | none =>
    rw [hq] at hc
    have HC : Hid (∀ w : World, Calls Tryd.prog 63 #[.string sl, .string ⟨#[112]⟩] w fun e w' => e = .returned (.tuple #[.string sl, .string ⟨#[]⟩, .bool false]) ∧ Below w.heap.size w w') := hc
    show Calls _ _ _ _ fun e w' => e = .panicked bad ∧ Below w.heap.size w w'
    clear hc hq
    go_enter Tryd.func61, Tryd.ntmps61
    go_wp2_with fail
    refine (HC.out _).mono ?_
    rintro e w1 ⟨rfl, hb⟩
    have hb : Below w.heap.size w w1 := Below.andThen (Below.al (Below.refl _ _) _) hb
    go_wp2_with fail
    refine (must_false _).mono ?_
    rintro e w1 ⟨rfl, rfl⟩
    go_wp2_with fail
    exact ⟨rfl, rfl, hb⟩
  | some p =>
    obtain ⟨m, x⟩ := p
    rw [hq] at hc
    have he := cutU_eq 112 l _ hq
    have hlen : l.length = m.length + 1 + x.length := by rw [he]; simp; omega
    have h1 := fun w => signedRd_any x 9999 9999 w (by decide) (by decide) (by omega)
    have h2 := fun w => decimal_any m 18446744073709551615 w (by decide) (by omega)
    have BD := fun q h => sgnV_bd x q h
    have DM : Hid (∀ n, decV 18446744073709551615 m = some n → n < 18446744073709551616) := fun n hn => by
      unfold decV at hn
      split at hn
      · have := decFold_le 18446744073709551615 _ 0 n (Nat.zero_le _) hn; omega
      · simp at hn
    show Calls _ _ _ _ fun e w' => e = endU ((sgnV 9999 9999 x).bind fun q => (decV 18446744073709551615 m).bind fun m => togV 23 127 m (toI q)) ∧ Below w.heap.size w w'
    dsimp only at hc
    clear he hlen hq a0
    generalize str m = sm at *
    generalize str x = sx at *
    have HC : Hid (∀ w : World, Calls Tryd.prog 63 #[.string sl, .string ⟨#[112]⟩] w fun e w' => e = .returned (.tuple #[.string sm, .string sx, .bool true]) ∧ Below w.heap.size w w') := hc
    clear hc
    generalize sgnV 9999 9999 x = v1 at *
    generalize decV 18446744073709551615 m = v2 at *
    cases v1 with
    | none =>
      have H1 : Hid (∀ w : World, Calls Tryd.prog 34 #[.string sx, .int .u64 9999, .int .u64 9999] w fun e w' => e = .panicked bad ∧ w' = w) := h1
      clear h1 h2 BD
      show Calls _ _ _ _ fun e w' => e = .panicked bad ∧ Below w.heap.size w w'
      go_enter Tryd.func61, Tryd.ntmps61
      go_wp2_with fail
      refine (HC.out _).mono ?_
      rintro e w1 ⟨rfl, hb⟩
      have hb : Below w.heap.size w w1 := Below.andThen (Below.al (Below.refl _ _) _) hb
      go_wp2_with fail
      refine (must_true _).mono ?_
      rintro e w1 ⟨rfl, rfl⟩
      go_wp2_with fail
      refine (H1.out _).mono ?_
      rintro e w1 ⟨rfl, rfl⟩
      go_wp2_with fail
      exact ⟨rfl, rfl, hb⟩
    | some q =>
      have H1 : Hid (∀ w : World, Calls Tryd.prog 34 #[.string sx, .int .u64 9999, .int .u64 9999] w fun e w' => e = .returned (.int .u64 (q : Int)) ∧ w' = w) := h1
      obtain ⟨q0, q1, q2⟩ := BD q rfl
      have wq := toI_wrap q q0
      show Calls _ _ _ _ fun e w' => e = endU (v2.bind fun m => togV 23 127 m (toI q)) ∧ Below w.heap.size w w'
      generalize toI q = ee at *
      clear h1 BD
      have BX : Hid (∀ w1 : World, Below (w.alloc (.cells #[.int .i64 23, .int .i64 127] 92)).heap.size (w.alloc (.cells #[.int .i64 23, .int .i64 127] 92)) w1 → w1.cell? ⟨w.heap.size, 0, none⟩ = some (.int .i64 23) ∧ w1.cell? ⟨w.heap.size, 1, none⟩ = some (.int .i64 127) ∧ Below w.heap.size w w1) := fun w1 hb =>
        ⟨(hb.cell (by simp <;> omega)).trans (by simp [go_sem]), (hb.cell (by simp <;> omega)).trans (by simp [go_sem]), Below.andThen (Below.al (Below.refl _ _) _) hb⟩
      cases v2 with
      | none =>
        have H2 : Hid (∀ w : World, Calls Tryd.prog 58 #[.string sm, .int .u64 18446744073709551615] w fun e w' => e = .panicked bad ∧ w' = w) := h2
        clear h2
        show Calls _ _ _ _ fun e w' => e = .panicked bad ∧ Below w.heap.size w w'
        go_enter Tryd.func61, Tryd.ntmps61
        go_wp2_with fail
        refine (HC.out _).mono ?_
        rintro e w1 ⟨rfl, hb0⟩
        obtain ⟨c0, c1, hb⟩ := BX.out w1 hb0
        clear hb0 BX
        go_wp2_with fail
        refine (must_true _).mono ?_
        rintro e w1 ⟨rfl, rfl⟩
        go_wp2_with fail
        refine (H1.out _).mono ?_
        rintro e w1 ⟨rfl, rfl⟩
        go_wp2_with fail
        refine wp_region_held_drew (S := fun x => Below w.heap.size w x ∧ x.cell? ⟨w.heap.size, 0, none⟩ = some (.int .i64 23) ∧ x.cell? ⟨w.heap.size, 1, none⟩ = some (.int .i64 127)) (by kernel_rfl) ⟨Below.drew hb, c0, c1⟩ (fun hHeld => ?_)
        refine wpAnyH_take (i := 0) (v := (.agg #[.int .i64 23, .int .i64 127])) rfl (by kernel_rfl) (by kernel_rfl) (by kernel_rfl) (fun _ _ _ h => h) (Or.inl ⟨by rfl, ?_⟩) (by assumption) ?_
        · intro w9 hSw
          try dsimp only at hSw
          go_simp
        try simp only [Act.put, List.getElem_toArray, List.getElem_cons_succ, List.getElem_cons_zero, List.setIfInBounds_toArray, List.set_cons_zero, List.set_cons_succ]
        refine wpAnyH_take (i := 1) (v := (.string sm)) rfl (by kernel_rfl) (by kernel_rfl) (by kernel_rfl) (fun _ _ _ h => h) (Or.inl ⟨by rfl, ?_⟩) (by assumption) ?_
        · intro w9 hSw
          try dsimp only at hSw
          go_simp
        try simp only [Act.put, List.getElem_toArray, List.getElem_cons_succ, List.getElem_cons_zero, List.setIfInBounds_toArray, List.set_cons_zero, List.set_cons_succ]
        refine wpAnyH_take (i := 3) (v := (.int .i64 ee)) rfl (by kernel_rfl) (by kernel_rfl) (by kernel_rfl) (fun _ _ _ h => h) (Or.inl ⟨by rfl, ?_⟩) (by assumption) ?_
        · intro w9 hSw
          try dsimp only at hSw
          go_simp
        try simp only [Act.put, List.getElem_toArray, List.getElem_cons_succ, List.getElem_cons_zero, List.setIfInBounds_toArray, List.set_cons_zero, List.set_cons_succ]
        refine wpAnyH_ready (rs := [2]) (by kernel_rfl) (by simp) ?_
        refine AllReadyH.cons rfl (fun K' hK => ?_) AllReadyH.nil
        rw [if_pos (by rfl)]
        simp only [List.getElem_toArray, List.getElem_cons_succ, List.getElem_cons_zero]
        go_wp2_with fail
        refine (H2.out _).mono ?_
        rintro e z ⟨rfl, rfl⟩
        go_wp2_with fail
        exact ⟨rfl, rfl, hHeld.1⟩
      | some n =>
        have H2 : Hid (∀ w : World, Calls Tryd.prog 58 #[.string sm, .int .u64 18446744073709551615] w fun e w' => e = .returned (.int .u64 (n : Int)) ∧ w' = w) := h2
        have n1 := DM.out n rfl
        have H3 := fun w hT => tog32_any n ee w n1 (by omega) (by omega) hT
        show Calls _ _ _ _ fun e w' => e = endU (togV 23 127 n ee) ∧ Below w.heap.size w w'
        generalize togV 23 127 n ee = v3 at *
        have old := hT.old
        clear h2 DM n1
        cases v3 with
        | none =>
          have H3' : Hid (∀ w, Tab64 w → Calls Tryd.prog 68 #[.agg #[.int .i64 23, .int .i64 127], .int .u64 (n : Int), .int .i64 ee] w fun r w' => r = .returned (.tuple #[.int .u64 0, .bool false]) ∧ Below w.heap.size w w') := H3
          clear H3
          show Calls _ _ _ _ fun e w' => e = .panicked bad ∧ Below w.heap.size w w'
          go_enter Tryd.func61, Tryd.ntmps61
          go_wp2_with fail
          refine (HC.out _).mono ?_
          rintro e w1 ⟨rfl, hb0⟩
          obtain ⟨c0, c1, hb⟩ := BX.out w1 hb0
          clear hb0 BX
          go_wp2_with fail
          refine (must_true _).mono ?_
          rintro e w1 ⟨rfl, rfl⟩
          go_wp2_with fail
          refine (H1.out _).mono ?_
          rintro e w1 ⟨rfl, rfl⟩
          go_wp2_with fail
          refine wp_region_held_drew (S := fun x => Below w.heap.size w x ∧ x.cell? ⟨w.heap.size, 0, none⟩ = some (.int .i64 23) ∧ x.cell? ⟨w.heap.size, 1, none⟩ = some (.int .i64 127)) (by kernel_rfl) ⟨Below.drew hb, c0, c1⟩ (fun hHeld => ?_)
          refine wpAnyH_take (i := 0) (v := (.agg #[.int .i64 23, .int .i64 127])) rfl (by kernel_rfl) (by kernel_rfl) (by kernel_rfl) (fun _ _ _ h => h) (Or.inl ⟨by rfl, ?_⟩) (by assumption) ?_
          · intro w9 hSw
            try dsimp only at hSw
            go_simp
          try simp only [Act.put, List.getElem_toArray, List.getElem_cons_succ, List.getElem_cons_zero, List.setIfInBounds_toArray, List.set_cons_zero, List.set_cons_succ]
          refine wpAnyH_take (i := 1) (v := (.string sm)) rfl (by kernel_rfl) (by kernel_rfl) (by kernel_rfl) (fun _ _ _ h => h) (Or.inl ⟨by rfl, ?_⟩) (by assumption) ?_
          · intro w9 hSw
            try dsimp only at hSw
            go_simp
          try simp only [Act.put, List.getElem_toArray, List.getElem_cons_succ, List.getElem_cons_zero, List.setIfInBounds_toArray, List.set_cons_zero, List.set_cons_succ]
          refine wpAnyH_take (i := 3) (v := (.int .i64 ee)) rfl (by kernel_rfl) (by kernel_rfl) (by kernel_rfl) (fun _ _ _ h => h) (Or.inl ⟨by rfl, ?_⟩) (by assumption) ?_
          · intro w9 hSw
            try dsimp only at hSw
            go_simp
          try simp only [Act.put, List.getElem_toArray, List.getElem_cons_succ, List.getElem_cons_zero, List.setIfInBounds_toArray, List.set_cons_zero, List.set_cons_succ]
          refine wpAnyH_ready (rs := [2]) (by kernel_rfl) (by simp) ?_
          refine AllReadyH.cons rfl (fun K' hK => ?_) AllReadyH.nil
          rw [if_pos (by rfl)]
          simp only [List.getElem_toArray, List.getElem_cons_succ, List.getElem_cons_zero]
          go_wp2_with fail
          refine (H2.out _).mono ?_
          rintro e z ⟨rfl, rfl⟩
          try go_wp2_with fail
          refine hK.out _ _ hHeld (fun hHeld => ?_)
          clear hK K'
          try simp only [Act.put, List.getElem_toArray, List.getElem_cons_succ, List.getElem_cons_zero, List.setIfInBounds_toArray, List.set_cons_zero, List.set_cons_succ]
          refine wpAnyH_ready (rs := [4]) (by kernel_rfl) (by simp) ?_
          refine AllReadyH.cons rfl (fun K' hK => ?_) AllReadyH.nil
          rw [if_pos (by rfl)]
          simp only [List.getElem_toArray, List.getElem_cons_succ, List.getElem_cons_zero]
          go_wp2_with fail
          refine (H3'.out _ (hT.below (And.left hHeld) old)).mono ?_
          rintro e z2 ⟨rfl, hbx⟩
          try go_wp2_with fail
          have hHeld : Below w.heap.size w z2 ∧ z2.cell? ⟨w.heap.size, 0, none⟩ = some (.int .i64 23) ∧ z2.cell? ⟨w.heap.size, 1, none⟩ = some (.int .i64 127) := ⟨Below.andThen hHeld.1 hbx, (hbx.cell (p := ⟨w.heap.size, 0, none⟩) (block_lt_of_cell hHeld.2.1)).trans hHeld.2.1, (hbx.cell (p := ⟨w.heap.size, 1, none⟩) (block_lt_of_cell hHeld.2.2)).trans hHeld.2.2⟩
          refine hK.out _ _ hHeld (fun hHeld => ?_)
          clear hK K'
          try simp only [Act.put, List.getElem_toArray, List.getElem_cons_succ, List.getElem_cons_zero, List.setIfInBounds_toArray, List.set_cons_zero, List.set_cons_succ]
          refine wpAnyH_take (i := 5) (v := (.tuple #[.int .u64 0, .bool false])) rfl (by kernel_rfl) (by kernel_rfl) (by kernel_rfl) (fun _ _ _ h => h) (Or.inl ⟨by rfl, ?_⟩) (by assumption) ?_
          · intro w9 hSw
            try dsimp only at hSw
            go_simp
          try simp only [Act.put, List.getElem_toArray, List.getElem_cons_succ, List.getElem_cons_zero, List.setIfInBounds_toArray, List.set_cons_zero, List.set_cons_succ]
          refine wpAnyH_take (i := 6) (v := (.int .u64 0)) rfl (by kernel_rfl) (by kernel_rfl) (by kernel_rfl) (fun _ _ _ h => h) (Or.inl ⟨by rfl, ?_⟩) (by assumption) ?_
          · intro w9 hSw
            try dsimp only at hSw
            go_simp
          try simp only [Act.put, List.getElem_toArray, List.getElem_cons_succ, List.getElem_cons_zero, List.setIfInBounds_toArray, List.set_cons_zero, List.set_cons_succ]
          refine wpAnyH_take (i := 7) (v := (.bool false)) rfl (by kernel_rfl) (by kernel_rfl) (by kernel_rfl) (fun _ _ _ h => h) (Or.inl ⟨by rfl, ?_⟩) (by assumption) ?_
          · intro w9 hSw
            try dsimp only at hSw
            go_simp
          try simp only [Act.put, List.getElem_toArray, List.getElem_cons_succ, List.getElem_cons_zero, List.setIfInBounds_toArray, List.set_cons_zero, List.set_cons_succ]
          refine wpAnyH_take (i := 8) (v := (.int .u64 0)) rfl (by kernel_rfl) (by kernel_rfl) (by kernel_rfl) (fun _ _ _ h => h) (Or.inl ⟨by rfl, ?_⟩) (by assumption) ?_
          · intro w9 hSw
            try dsimp only at hSw
            go_simp
          try simp only [Act.put, List.getElem_toArray, List.getElem_cons_succ, List.getElem_cons_zero, List.setIfInBounds_toArray, List.set_cons_zero, List.set_cons_succ]
          refine wpAnyH_take (i := 9) (v := (.bool false)) rfl (by kernel_rfl) (by kernel_rfl) (by kernel_rfl) (fun _ _ _ h => h) (Or.inl ⟨by rfl, ?_⟩) (by assumption) ?_
          · intro w9 hSw
            try dsimp only at hSw
            go_simp
          try simp only [Act.put, List.getElem_toArray, List.getElem_cons_succ, List.getElem_cons_zero, List.setIfInBounds_toArray, List.set_cons_zero, List.set_cons_succ]
          refine wpAnyH_done (by kernel_rfl) ?_ _
          go_wp2_with fail
          refine (must_false _).mono ?_
          rintro e y ⟨rfl, rfl⟩
          go_wp2_with fail
          exact ⟨rfl, rfl, hHeld.1⟩
        | some R =>
          have H3' : Hid (∀ w, Tab64 w → Calls Tryd.prog 68 #[.agg #[.int .i64 23, .int .i64 127], .int .u64 (n : Int), .int .i64 ee] w fun r w' => r = .returned (.tuple #[.int .u64 (R : Int), .bool true]) ∧ Below w.heap.size w w') := H3
          clear H3
          show Calls _ _ _ _ fun e w' => e = .returned (.int .u64 (R : Int)) ∧ Below w.heap.size w w'
          go_enter Tryd.func61, Tryd.ntmps61
          go_wp2_with fail
          refine (HC.out _).mono ?_
          rintro e w1 ⟨rfl, hb0⟩
          obtain ⟨c0, c1, hb⟩ := BX.out w1 hb0
          clear hb0 BX
          go_wp2_with fail
          refine (must_true _).mono ?_
          rintro e w1 ⟨rfl, rfl⟩
          go_wp2_with fail
          refine (H1.out _).mono ?_
          rintro e w1 ⟨rfl, rfl⟩
          go_wp2_with fail
          refine wp_region_held_drew (S := fun x => Below w.heap.size w x ∧ x.cell? ⟨w.heap.size, 0, none⟩ = some (.int .i64 23) ∧ x.cell? ⟨w.heap.size, 1, none⟩ = some (.int .i64 127)) (by kernel_rfl) ⟨Below.drew hb, c0, c1⟩ (fun hHeld => ?_)
          refine wpAnyH_take (i := 0) (v := (.agg #[.int .i64 23, .int .i64 127])) rfl (by kernel_rfl) (by kernel_rfl) (by kernel_rfl) (fun _ _ _ h => h) (Or.inl ⟨by rfl, ?_⟩) (by assumption) ?_
          · intro w9 hSw
            try dsimp only at hSw
            go_simp
          try simp only [Act.put, List.getElem_toArray, List.getElem_cons_succ, List.getElem_cons_zero, List.setIfInBounds_toArray, List.set_cons_zero, List.set_cons_succ]
          refine wpAnyH_take (i := 1) (v := (.string sm)) rfl (by kernel_rfl) (by kernel_rfl) (by kernel_rfl) (fun _ _ _ h => h) (Or.inl ⟨by rfl, ?_⟩) (by assumption) ?_
          · intro w9 hSw
            try dsimp only at hSw
            go_simp
          try simp only [Act.put, List.getElem_toArray, List.getElem_cons_succ, List.getElem_cons_zero, List.setIfInBounds_toArray, List.set_cons_zero, List.set_cons_succ]
          refine wpAnyH_take (i := 3) (v := (.int .i64 ee)) rfl (by kernel_rfl) (by kernel_rfl) (by kernel_rfl) (fun _ _ _ h => h) (Or.inl ⟨by rfl, ?_⟩) (by assumption) ?_
          · intro w9 hSw
            try dsimp only at hSw
            go_simp
          try simp only [Act.put, List.getElem_toArray, List.getElem_cons_succ, List.getElem_cons_zero, List.setIfInBounds_toArray, List.set_cons_zero, List.set_cons_succ]
          refine wpAnyH_ready (rs := [2]) (by kernel_rfl) (by simp) ?_
          refine AllReadyH.cons rfl (fun K' hK => ?_) AllReadyH.nil
          rw [if_pos (by rfl)]
          simp only [List.getElem_toArray, List.getElem_cons_succ, List.getElem_cons_zero]
          go_wp2_with fail
          refine (H2.out _).mono ?_
          rintro e z ⟨rfl, rfl⟩
          try go_wp2_with fail
          refine hK.out _ _ hHeld (fun hHeld => ?_)
          clear hK K'
          try simp only [Act.put, List.getElem_toArray, List.getElem_cons_succ, List.getElem_cons_zero, List.setIfInBounds_toArray, List.set_cons_zero, List.set_cons_succ]
          refine wpAnyH_ready (rs := [4]) (by kernel_rfl) (by simp) ?_
          refine AllReadyH.cons rfl (fun K' hK => ?_) AllReadyH.nil
          rw [if_pos (by rfl)]
          simp only [List.getElem_toArray, List.getElem_cons_succ, List.getElem_cons_zero]
          go_wp2_with fail
          refine (H3'.out _ (hT.below (And.left hHeld) old)).mono ?_
          rintro e z2 ⟨rfl, hbx⟩
          try go_wp2_with fail
          have hHeld : Below w.heap.size w z2 ∧ z2.cell? ⟨w.heap.size, 0, none⟩ = some (.int .i64 23) ∧ z2.cell? ⟨w.heap.size, 1, none⟩ = some (.int .i64 127) := ⟨Below.andThen hHeld.1 hbx, (hbx.cell (p := ⟨w.heap.size, 0, none⟩) (block_lt_of_cell hHeld.2.1)).trans hHeld.2.1, (hbx.cell (p := ⟨w.heap.size, 1, none⟩) (block_lt_of_cell hHeld.2.2)).trans hHeld.2.2⟩
          refine hK.out _ _ hHeld (fun hHeld => ?_)
          clear hK K'
          try simp only [Act.put, List.getElem_toArray, List.getElem_cons_succ, List.getElem_cons_zero, List.setIfInBounds_toArray, List.set_cons_zero, List.set_cons_succ]
          refine wpAnyH_take (i := 5) (v := (.tuple #[.int .u64 (R : Int), .bool true])) rfl (by kernel_rfl) (by kernel_rfl) (by kernel_rfl) (fun _ _ _ h => h) (Or.inl ⟨by rfl, ?_⟩) (by assumption) ?_
          · intro w9 hSw
            try dsimp only at hSw
            go_simp
          try simp only [Act.put, List.getElem_toArray, List.getElem_cons_succ, List.getElem_cons_zero, List.setIfInBounds_toArray, List.set_cons_zero, List.set_cons_succ]
          refine wpAnyH_take (i := 6) (v := (.int .u64 (R : Int))) rfl (by kernel_rfl) (by kernel_rfl) (by kernel_rfl) (fun _ _ _ h => h) (Or.inl ⟨by rfl, ?_⟩) (by assumption) ?_
          · intro w9 hSw
            try dsimp only at hSw
            go_simp
          try simp only [Act.put, List.getElem_toArray, List.getElem_cons_succ, List.getElem_cons_zero, List.setIfInBounds_toArray, List.set_cons_zero, List.set_cons_succ]
          refine wpAnyH_take (i := 7) (v := (.bool true)) rfl (by kernel_rfl) (by kernel_rfl) (by kernel_rfl) (fun _ _ _ h => h) (Or.inl ⟨by rfl, ?_⟩) (by assumption) ?_
          · intro w9 hSw
            try dsimp only at hSw
            go_simp
          try simp only [Act.put, List.getElem_toArray, List.getElem_cons_succ, List.getElem_cons_zero, List.setIfInBounds_toArray, List.set_cons_zero, List.set_cons_succ]
          refine wpAnyH_take (i := 8) (v := (.int .u64 (R : Int))) rfl (by kernel_rfl) (by kernel_rfl) (by kernel_rfl) (fun _ _ _ h => h) (Or.inl ⟨by rfl, ?_⟩) (by assumption) ?_
          · intro w9 hSw
            try dsimp only at hSw
            go_simp
          try simp only [Act.put, List.getElem_toArray, List.getElem_cons_succ, List.getElem_cons_zero, List.setIfInBounds_toArray, List.set_cons_zero, List.set_cons_succ]
          refine wpAnyH_take (i := 9) (v := (.bool true)) rfl (by kernel_rfl) (by kernel_rfl) (by kernel_rfl) (fun _ _ _ h => h) (Or.inl ⟨by rfl, ?_⟩) (by assumption) ?_
          · intro w9 hSw
            try dsimp only at hSw
            go_simp
          try simp only [Act.put, List.getElem_toArray, List.getElem_cons_succ, List.getElem_cons_zero, List.setIfInBounds_toArray, List.set_cons_zero, List.set_cons_succ]
          refine wpAnyH_done (by kernel_rfl) ?_ _
          go_wp2_with fail
          refine (must_true _).mono ?_
          rintro e y ⟨rfl, rfl⟩
          go_wp2_with fail
          go_ret
          exact ⟨rfl, hHeld.1⟩
#print axioms sizeRd32_any
end Go.Proofs.YtndogfemnpgfoaaDoor
namespace Go.Proofs.YtndogfemnpgfoaaDoor
open Pl Go.RowKit

theorem hexF_lt (g : Bool) : ∀ (l : List UInt8) (a n : Nat), hexF g a l = some n → n < (a + 1) * 16 ^ l.length
  | [], a, n, h => by simp [hexF] at h; subst h; simp
  | c :: l, a, n, h => by
    simp only [hexF] at h
    cases hc : hexC g c.toNat with
    | none => rw [hc] at h; simp at h
    | some d =>
      rw [hc] at h
      have hd := hexC_lt g _ _ hc
      have := hexF_lt g l (16 * a + d) n h
      refine Nat.lt_of_lt_of_le this ?_
      rw [List.length_cons, Nat.pow_succ, Nat.mul_comm (16 ^ l.length) 16, ← Nat.mul_assoc]
      exact Nat.mul_le_mul_right _ (by omega)

theorem andNot63 (n : Nat) (h : n < 18446744073709551616) : bits .andNot .u64 (n : Int) 9223372036854775808 = ((n % 9223372036854775808 : Nat) : Int) := by
  have e : bits .andNot .u64 (n : Int) 9223372036854775808 = bits .and .u64 (n : Int) ((9223372036854775807 : Nat) : Int) := by
    show IntKind.u64.wrap ((BitVec.ofInt 64 (n : Int) &&& ~~~(BitVec.ofInt 64 9223372036854775808)).toNat : Int) = IntKind.u64.wrap ((BitVec.ofInt 64 (n : Int) &&& BitVec.ofInt 64 ((9223372036854775807 : Nat) : Int)).toNat : Int)
    rw [show ~~~(BitVec.ofInt 64 9223372036854775808) = BitVec.ofInt 64 ((9223372036854775807 : Nat) : Int) from by decide]
  rw [e, u64_and_nat n 9223372036854775807 h (by decide), show n &&& 9223372036854775807 = n % 9223372036854775808 from Nat.and_two_pow_sub_one_eq_mod n 63]
theorem andNot31 (n : Nat) (h : n < 4294967296) : bits .andNot .u64 (n : Int) 2147483648 = ((n % 2147483648 : Nat) : Int) := by
  have e : bits .andNot .u64 (n : Int) 2147483648 = bits .and .u64 (n : Int) ((18446744071562067967 : Nat) : Int) := by
    show IntKind.u64.wrap ((BitVec.ofInt 64 (n : Int) &&& ~~~(BitVec.ofInt 64 2147483648)).toNat : Int) = IntKind.u64.wrap ((BitVec.ofInt 64 (n : Int) &&& BitVec.ofInt 64 ((18446744071562067967 : Nat) : Int)).toNat : Int)
    rw [show ~~~(BitVec.ofInt 64 2147483648) = BitVec.ofInt 64 ((18446744071562067967 : Nat) : Int) from by decide]
  rw [e, u64_and_nat n 18446744071562067967 (by omega) (by decide)]
  have h1 : n &&& 4294967295 = n := by rw [show n &&& 4294967295 = n % 4294967296 from Nat.and_two_pow_sub_one_eq_mod n 32]; omega
  have h2 : n &&& 18446744071562067967 = n &&& 2147483647 := by
    conv => lhs; rw [← h1]
    rw [Nat.and_assoc]
    rfl
  rw [h2, show n &&& 2147483647 = n % 2147483648 from Nat.and_two_pow_sub_one_eq_mod n 31]
theorem togV_lt (fb b m : Nat) (e : Int) (R : Nat) (hm : m < 18446744073709551616) (h : togV fb (b : Int) m e = some R) : R < (2 * b + 1) * 2 ^ fb := by
  have hp := Nat.two_pow_pos fb
  have hbig : 2 ^ fb ≤ (2 * b + 1) * 2 ^ fb := Nat.le_mul_of_pos_left _ (by omega)
  by_cases h0 : m = 0
  · unfold togV at h
    rw [if_pos h0] at h
    cases h
    omega
  obtain ⟨M, z, L, hg, hz, hmz, hodd, hL1, hL64, hM1, hM2, hM64⟩ := ctz_split m h0 hm
  unfold togV at h
  rw [if_neg h0, hg.hz, hg.hM, hg.hL] at h
  unfold togM at h
  by_cases c1 : e + (z : Int) < 1 - (b : Int) - fb ∨ (b : Int) < e + (z : Int) + L - 1 ∨ fb + 1 < L
  · rw [if_pos c1] at h; cases h
  rw [if_neg c1] at h
  obtain ⟨k, hk⟩ : ∃ k : Nat, e + (z : Int) = (k : Int) + (1 - (b : Int) - fb) := ⟨(e + (z : Int) - (1 - (b : Int) - fb)).toNat, by omega⟩
  by_cases c2 : e + (z : Int) + L - 1 < 1 - (b : Int)
  · rw [if_pos c2] at h
    have e1 : (e + (z : Int) - (1 - (b : Int) - fb)).toNat = k := by omega
    rw [e1] at h
    have hs := (tog_small fb k L M hM2 (by omega)).1
    cases h
    omega
  · rw [if_neg c2] at h
    have e1 : (e + (z : Int) + L - 1 + (b : Int)).toNat = k + L - fb := by omega
    rw [e1] at h
    obtain ⟨t1, t2, t3⟩ := tog_big fb k L M hM1 hM2 hL1 (by omega) (by omega)
    have hle : k + L - fb ≤ 2 * b := by omega
    have h2 : (k + L - fb) * 2 ^ fb ≤ 2 * b * 2 ^ fb := Nat.mul_le_mul_right _ hle
    rw [Nat.pow_succ] at t2
    rw [Nat.add_mul, Nat.one_mul]
    cases h
    omega
theorem szV_le (fb b : Nat) (l : List UInt8) (n : Nat) (h : szV fb (b : Int) ((2 * b + 1) * 2 ^ fb) l = some n) : n ≤ (2 * b + 1) * 2 ^ fb := by
  unfold szV at h
  by_cases h0 : l = [105, 110, 102]
  · rw [if_pos h0] at h; cases h; exact Nat.le_refl _
  rw [if_neg h0] at h
  cases hc : cutU 112 l with
  | none => rw [hc] at h; cases h
  | some p =>
    rw [hc] at h
    replace h : ((sgnV 9999 9999 p.2).bind fun q => (decV 18446744073709551615 p.1).bind fun m => togV fb (b : Int) m (toI q)) = some n := h
    cases hs : sgnV 9999 9999 p.2 with
    | none => rw [hs] at h; cases h
    | some q =>
      rw [hs] at h
      replace h : ((decV 18446744073709551615 p.1).bind fun m => togV fb (b : Int) m (toI q)) = some n := h
      cases hd : decV 18446744073709551615 p.1 with
      | none => rw [hd] at h; cases h
      | some m =>
        rw [hd] at h
        have hm : m ≤ 18446744073709551615 := by
          unfold decV at hd
          split at hd
          · exact decFold_le _ _ 0 m (Nat.zero_le _) hd
          · cases hd
        exact Nat.le_of_lt (togV_lt fb b m (toI q) n (by omega) h)

/-- The bits of a NaN that its digits tell. -/
def nan64V (l : List UInt8) : Option Nat := if l.length = 16 then (hexF false 0 l).bind fun n => if 9218868437227405312 < n % 9223372036854775808 then some n else none else none
/-- The bits of a float. -/
def flt64V (l : List UInt8) : Option Nat :=
  if Lib.hasPrefix l [110, 97, 110, 58] = true then nan64V (Lib.trimPrefix l [110, 97, 110, 58])
  else if l.head? = some 45 then (szV 52 1023 9218868437227405312 l.tail).map fun n => n + 9223372036854775808 else szV 52 1023 9218868437227405312 l

set_option maxHeartbeats 4000000 in
set_option maxRecDepth 100000 in
theorem nanRd64_any (l : List UInt8) (w : World) :
    Calls Tryd.prog 60 #[.string (str l), .int .i64 8] w fun e w' => e = endU (nan64V l) ∧ Below w.heap.size w w' := by
  obtain ⟨sl, HSL, _, hsz, _⟩ := str_facts l
  by_cases c1 : l.length = 16
  rotate_left
  · have b1 : ((l.length : Int) == 16) = false := by simp; omega
    rw [show nan64V l = none from by unfold nan64V; rw [if_neg c1], HSL.out]
    clear c1
    go_enter Tryd.func60, Tryd.ntmps60
    go_wp2_with fail
    refine (must_false _).mono ?_
    rintro e w ⟨rfl, rfl⟩
    go_wp2_with fail
    exact ⟨rfl, rfl, Below.refl _ _⟩
  have b1 : ((l.length : Int) == 16) = true := by simp; omega
  have hh := fun w => hexRd_any false l w (by omega)
  have HV : Hid (nan64V l = (hexF false 0 l).bind fun n => if 9218868437227405312 < n % 9223372036854775808 then some n else none) := by show _ = _; unfold nan64V; rw [if_pos c1]
  have HN : Hid (∀ n, hexF false 0 l = some n → n < 18446744073709551616) := fun n hn => by have := hexF_lt false l 0 n hn; rw [c1] at this; exact this
  rw [HV.out]
  rw [HSL.out] at hh ⊢
  clear HV c1
  generalize hexF false 0 l = v at *
  cases v with
  | none =>
    have HH : Hid (∀ w : World, Calls Tryd.prog 59 #[.string sl, .bool false] w fun e w' => e = .panicked bad ∧ w' = w) := hh
    show Calls _ _ _ _ fun e w' => e = .panicked bad ∧ Below w.heap.size w w'
    clear hh HN
    go_enter Tryd.func60, Tryd.ntmps60
    go_wp2_with fail
    refine (must_true _).mono ?_
    rintro e w ⟨rfl, rfl⟩
    go_wp2_with fail
    refine (HH.out _).mono ?_
    rintro e w ⟨rfl, rfl⟩
    go_wp2_with fail
    exact ⟨rfl, rfl, Below.refl _ _⟩
  | some n =>
    have HH : Hid (∀ w : World, Calls Tryd.prog 59 #[.string sl, .bool false] w fun e w' => e = .returned (.int .u64 (n : Int)) ∧ w' = w) := hh
    have hn := HN.out n rfl
    have an := andNot63 n hn
    show Calls _ _ _ _ fun e w' => e = endU (if 9218868437227405312 < n % 9223372036854775808 then some n else none) ∧ Below w.heap.size w w'
    clear hh HN
    generalize n % 9223372036854775808 = r at *
    by_cases c2 : 9218868437227405312 < r
    · have g2 : (9218868437227405312 : Int) < (r : Int) := by omega
      rw [if_pos c2]
      clear c2
      go_enter Tryd.func60, Tryd.ntmps60
      go_wp2_with fail
      refine (must_true _).mono ?_
      rintro e w ⟨rfl, rfl⟩
      go_wp2_with fail
      refine (HH.out _).mono ?_
      rintro e w ⟨rfl, rfl⟩
      go_wp2_with fail
      refine (layoutOf64 _).mono ?_
      rintro e w1 ⟨rfl, HW1⟩
      have hb1 : Below w.heap.size w w1 := by rw [← HW1]; exact Below.al (Below.refl _ _) _
      clear HW1
      go_wp2_with fail
      refine (infinity64 _).mono ?_
      rintro e w2 ⟨rfl, HW2⟩
      have hb2 : Below w.heap.size w w2 := by rw [← HW2]; exact Below.al hb1 _
      clear HW2
      go_wp2_with fail
      refine (must_true _).mono ?_
      rintro e w2 ⟨rfl, rfl⟩
      go_wp2_with fail
      go_ret
      exact ⟨rfl, hb2⟩
    · have g2 : ¬ (9218868437227405312 : Int) < (r : Int) := by omega
      rw [if_neg c2]
      clear c2
      go_enter Tryd.func60, Tryd.ntmps60
      go_wp2_with fail
      refine (must_true _).mono ?_
      rintro e w ⟨rfl, rfl⟩
      go_wp2_with fail
      refine (HH.out _).mono ?_
      rintro e w ⟨rfl, rfl⟩
      go_wp2_with fail
      refine (layoutOf64 _).mono ?_
      rintro e w1 ⟨rfl, HW1⟩
      have hb1 : Below w.heap.size w w1 := by rw [← HW1]; exact Below.al (Below.refl _ _) _
      clear HW1
      go_wp2_with fail
      refine (infinity64 _).mono ?_
      rintro e w2 ⟨rfl, HW2⟩
      have hb2 : Below w.heap.size w w2 := by rw [← HW2]; exact Below.al hb1 _
      clear HW2
      go_wp2_with fail
      first
        | refine (must_false _).mono ?_
        | (rw [show decide ((9218868437227405312 : Int) < (r : Int)) = false from by simp; omega]; refine (must_false _).mono ?_)
        | (rw [show decide (9218868437227405312 < r) = false from by simp; omega]; refine (must_false _).mono ?_)
      rintro e w2 ⟨rfl, rfl⟩
      go_wp2_with fail
      exact ⟨rfl, rfl, hb2⟩

set_option maxHeartbeats 4000000 in
set_option maxRecDepth 100000 in
theorem floatRd64_any (l : List UInt8) (w : World) (hl : l.length ≤ 1000000) (hT : Tab64 w) :
    Calls Tryd.prog 36 #[.string (str l), .int .i64 8] w fun e w' => e = endU (flt64V l) ∧ Below w.heap.size w w' := by
  have hcp := fun w => Tryd.strings_CutPrefix (str l) ⟨#[110, 97, 110, 58]⟩ w
  rw [show (str l).data.toList = l from rfl, show (⟨#[110, 97, 110, 58]⟩ : ByteArray).data.toList = [110, 97, 110, 58] from rfl] at hcp
  obtain ⟨sl, HSL⟩ : ∃ s, Hid (str l = s) := ⟨_, rfl⟩
  by_cases a0 : Lib.hasPrefix l [110, 97, 110, 58] = true
  · rw [a0] at hcp
    rw [show flt64V l = nan64V (Lib.trimPrefix l [110, 97, 110, 58]) from by unfold flt64V; rw [if_pos a0]]
    have hn := fun w => nanRd64_any (Lib.trimPrefix l [110, 97, 110, 58]) w
    clear a0
    generalize Lib.trimPrefix l [110, 97, 110, 58] = r at *
    have HC : Hid (∀ w : World, Calls Tryd.prog 57 #[.string (str l), .string ⟨#[110, 97, 110, 58]⟩] w fun e w' => e = .returned (.tuple #[.string (str r), .bool true]) ∧ w' = w) := hcp
    rw [HSL.out] at HC ⊢
    generalize str r = sr at *
    generalize nan64V r = v at *
    clear hcp
    cases v with
    | none =>
      have HN : Hid (∀ w : World, Calls Tryd.prog 60 #[.string sr, .int .i64 8] w fun e w' => e = .panicked bad ∧ Below w.heap.size w w') := hn
      clear hn
      go_enter Tryd.func36, Tryd.ntmps36
      go_wp2_with fail
      refine (HC.out _).mono ?_
      rintro e w ⟨rfl, rfl⟩
      go_wp2_with fail
      refine (HN.out _).mono ?_
      rintro e w1 ⟨rfl, hb⟩
      go_wp2_with fail
      exact ⟨rfl, rfl, hb⟩
    | some n =>
      have HN : Hid (∀ w : World, Calls Tryd.prog 60 #[.string sr, .int .i64 8] w fun e w' => e = .returned (.int .u64 (n : Int)) ∧ Below w.heap.size w w') := hn
      clear hn
      go_enter Tryd.func36, Tryd.ntmps36
      go_wp2_with fail
      refine (HC.out _).mono ?_
      rintro e w ⟨rfl, rfl⟩
      go_wp2_with fail
      refine (HN.out _).mono ?_
      rintro e w1 ⟨rfl, hb⟩
      go_wp2_with fail
      go_ret
      exact ⟨rfl, hb⟩
  have a0' : Lib.hasPrefix l [110, 97, 110, 58] = false := by simpa using a0
  rw [a0'] at hcp
  obtain ⟨st, HC⟩ : ∃ st, Hid (∀ w : World, Calls Tryd.prog 57 #[.string (str l), .string ⟨#[110, 97, 110, 58]⟩] w fun e w' => e = .returned (.tuple #[.string st, .bool false]) ∧ w' = w) := ⟨_, hcp⟩
  have hcm := fun w => Tryd.strings_CutPrefix (str l) ⟨#[45]⟩ w
  have tr := trim_one l 45
  rw [show (str l).data.toList = l from rfl, show (⟨#[45]⟩ : ByteArray).data.toList = [45] from rfl, tr.1] at hcm
  have old := hT.old
  by_cases a1 : l.head? = some 45
  · rw [tr.2 a1, show (l.head? == some 45) = true from by simp [a1]] at hcm
    have HM : Hid (∀ w : World, Calls Tryd.prog 57 #[.string (str l), .string ⟨#[45]⟩] w fun e w' => e = .returned (.tuple #[.string (str l.tail), .bool true]) ∧ w' = w) := hcm
    rw [show flt64V l = (szV 52 1023 9218868437227405312 l.tail).map fun n => n + 9223372036854775808 from by unfold flt64V; rw [if_neg a0, if_pos a1]]
    have hs := fun w hT => sizeRd64_any l.tail w (by rw [List.length_tail]; omega) hT
    have LE := fun n h => szV_le 52 1023 l.tail n h
    rw [HSL.out] at HC HM ⊢
    clear hcp hcm a0 a0' a1 tr
    generalize str l.tail = sr at *
    replace LE : ∀ n, szV 52 1023 9218868437227405312 l.tail = some n → n ≤ 9218868437227405312 := LE
    generalize szV 52 1023 9218868437227405312 l.tail = v at *
    cases v with
    | none =>
      have HS : Hid (∀ w : World, Tab64 w → Calls Tryd.prog 61 #[.string sr, .agg #[.int .i64 52, .int .i64 1023]] w fun e w' => e = .panicked bad ∧ Below w.heap.size w w') := hs
      clear hs LE
      show Calls _ _ _ _ fun e w' => e = .panicked bad ∧ Below w.heap.size w w'
      go_enter Tryd.func36, Tryd.ntmps36
      go_wp2_with fail
      refine (HC.out _).mono ?_
      rintro e w ⟨rfl, rfl⟩
      go_wp2_with fail
      refine (HM.out _).mono ?_
      rintro e w ⟨rfl, rfl⟩
      go_wp2_with fail
      refine (layoutOf64 _).mono ?_
      rintro e w1 ⟨rfl, HW1⟩
      have hb1 : Below w.heap.size w w1 := by rw [← HW1]; exact Below.al (Below.refl _ _) _
      clear HW1
      go_wp2_with fail
      refine (HS.out _ (hT.below hb1 old)).mono ?_
      rintro e w2 ⟨rfl, hb2⟩
      go_wp2_with fail
      exact ⟨rfl, rfl, Below.andThen hb1 hb2⟩
    | some n =>
      have HS : Hid (∀ w : World, Tab64 w → Calls Tryd.prog 61 #[.string sr, .agg #[.int .i64 52, .int .i64 1023]] w fun e w' => e = .returned (.int .u64 (n : Int)) ∧ Below w.heap.size w w') := hs
      have hn := LE n rfl
      have orr : bits .or .u64 (n : Int) 9223372036854775808 = ((n + 9223372036854775808 : Nat) : Int) := by
        have hk := bits_join .u64 64 (by decide) wraps_u64 63 (9223372036854775808 : Int) (n : Int) (by omega) (by decide) (by decide) (by omega) (by show (n : Int) < 9223372036854775808; omega) (by have : (2:Int)^64 = 18446744073709551616 := rfl; rw [this]; omega)
        have h1 := u64_or_nat n 9223372036854775808 (by omega) (by decide)
        have h2 := u64_or_nat 9223372036854775808 n (by decide) (by omega)
        rw [Nat.or_comm, ← h2] at h1
        refine h1.trans (hk.trans ?_)
        omega
      clear hs LE
      show Calls _ _ _ _ fun e w' => e = .returned (.int .u64 ((n + 9223372036854775808 : Nat) : Int)) ∧ Below w.heap.size w w'
      generalize n + 9223372036854775808 = q at *
      go_enter Tryd.func36, Tryd.ntmps36
      go_wp2_with fail
      refine (HC.out _).mono ?_
      rintro e w ⟨rfl, rfl⟩
      go_wp2_with fail
      refine (HM.out _).mono ?_
      rintro e w ⟨rfl, rfl⟩
      go_wp2_with fail
      refine (layoutOf64 _).mono ?_
      rintro e w1 ⟨rfl, HW1⟩
      have hb1 : Below w.heap.size w w1 := by rw [← HW1]; exact Below.al (Below.refl _ _) _
      clear HW1
      go_wp2_with fail
      refine (HS.out _ (hT.below hb1 old)).mono ?_
      rintro e w2 ⟨rfl, hb2⟩
      go_wp2_with fail
      go_ret
      exact ⟨rfl, Below.andThen hb1 hb2⟩
  · rw [show (l.head? == some 45) = false from by simpa using a1] at hcm
    have htr : Lib.trimPrefix l [45] = l := by unfold Lib.trimPrefix; rw [tr.1, if_neg (by simpa using a1)]
    rw [htr] at hcm
    have HM : Hid (∀ w : World, Calls Tryd.prog 57 #[.string (str l), .string ⟨#[45]⟩] w fun e w' => e = .returned (.tuple #[.string (str l), .bool false]) ∧ w' = w) := hcm
    rw [show flt64V l = szV 52 1023 9218868437227405312 l from by unfold flt64V; rw [if_neg a0, if_neg a1]]
    have hs := fun w hT => sizeRd64_any l w hl hT
    rw [HSL.out] at HC HM hs ⊢
    clear hcp hcm a0 a0' a1 tr htr
    generalize szV 52 1023 9218868437227405312 l = v at *
    cases v with
    | none =>
      have HS : Hid (∀ w : World, Tab64 w → Calls Tryd.prog 61 #[.string sl, .agg #[.int .i64 52, .int .i64 1023]] w fun e w' => e = .panicked bad ∧ Below w.heap.size w w') := hs
      clear hs
      show Calls _ _ _ _ fun e w' => e = .panicked bad ∧ Below w.heap.size w w'
      go_enter Tryd.func36, Tryd.ntmps36
      go_wp2_with fail
      refine (HC.out _).mono ?_
      rintro e w ⟨rfl, rfl⟩
      go_wp2_with fail
      refine (HM.out _).mono ?_
      rintro e w ⟨rfl, rfl⟩
      go_wp2_with fail
      refine (layoutOf64 _).mono ?_
      rintro e w1 ⟨rfl, HW1⟩
      have hb1 : Below w.heap.size w w1 := by rw [← HW1]; exact Below.al (Below.refl _ _) _
      clear HW1
      go_wp2_with fail
      refine (HS.out _ (hT.below hb1 old)).mono ?_
      rintro e w2 ⟨rfl, hb2⟩
      go_wp2_with fail
      exact ⟨rfl, rfl, Below.andThen hb1 hb2⟩
    | some n =>
      have HS : Hid (∀ w : World, Tab64 w → Calls Tryd.prog 61 #[.string sl, .agg #[.int .i64 52, .int .i64 1023]] w fun e w' => e = .returned (.int .u64 (n : Int)) ∧ Below w.heap.size w w') := hs
      clear hs
      show Calls _ _ _ _ fun e w' => e = .returned (.int .u64 (n : Int)) ∧ Below w.heap.size w w'
      go_enter Tryd.func36, Tryd.ntmps36
      go_wp2_with fail
      refine (HC.out _).mono ?_
      rintro e w ⟨rfl, rfl⟩
      go_wp2_with fail
      refine (HM.out _).mono ?_
      rintro e w ⟨rfl, rfl⟩
      go_wp2_with fail
      refine (layoutOf64 _).mono ?_
      rintro e w1 ⟨rfl, HW1⟩
      have hb1 : Below w.heap.size w w1 := by rw [← HW1]; exact Below.al (Below.refl _ _) _
      clear HW1
      go_wp2_with fail
      refine (HS.out _ (hT.below hb1 old)).mono ?_
      rintro e w2 ⟨rfl, hb2⟩
      go_wp2_with fail
      go_ret
      exact ⟨rfl, Below.andThen hb1 hb2⟩
#print axioms floatRd64_any

/-- The bits of a NaN that its digits tell. -/
def nan32V (l : List UInt8) : Option Nat := if l.length = 8 then (hexF false 0 l).bind fun n => if 2139095040 < n % 2147483648 then some n else none else none
/-- The bits of a float. -/
def flt32V (l : List UInt8) : Option Nat :=
  if Lib.hasPrefix l [110, 97, 110, 58] = true then nan32V (Lib.trimPrefix l [110, 97, 110, 58])
  else if l.head? = some 45 then (szV 23 127 2139095040 l.tail).map fun n => n + 2147483648 else szV 23 127 2139095040 l

set_option maxHeartbeats 4000000 in
set_option maxRecDepth 100000 in
theorem nanRd32_any (l : List UInt8) (w : World) :
    Calls Tryd.prog 60 #[.string (str l), .int .i64 4] w fun e w' => e = endU (nan32V l) ∧ Below w.heap.size w w' := by
  obtain ⟨sl, HSL, _, hsz, _⟩ := str_facts l
  by_cases c1 : l.length = 8
  rotate_left
  · have b1 : ((l.length : Int) == 8) = false := by simp; omega
    rw [show nan32V l = none from by unfold nan32V; rw [if_neg c1], HSL.out]
    clear c1
    go_enter Tryd.func60, Tryd.ntmps60
    go_wp2_with fail
    refine (must_false _).mono ?_
    rintro e w ⟨rfl, rfl⟩
    go_wp2_with fail
    exact ⟨rfl, rfl, Below.refl _ _⟩
  have b1 : ((l.length : Int) == 8) = true := by simp; omega
  have hh := fun w => hexRd_any false l w (by omega)
  have HV : Hid (nan32V l = (hexF false 0 l).bind fun n => if 2139095040 < n % 2147483648 then some n else none) := by show _ = _; unfold nan32V; rw [if_pos c1]
  have HN : Hid (∀ n, hexF false 0 l = some n → n < 4294967296) := fun n hn => by have := hexF_lt false l 0 n hn; rw [c1] at this; exact this
  rw [HV.out]
  rw [HSL.out] at hh ⊢
  clear HV c1
  generalize hexF false 0 l = v at *
  cases v with
  | none =>
    have HH : Hid (∀ w : World, Calls Tryd.prog 59 #[.string sl, .bool false] w fun e w' => e = .panicked bad ∧ w' = w) := hh
    show Calls _ _ _ _ fun e w' => e = .panicked bad ∧ Below w.heap.size w w'
    clear hh HN
    go_enter Tryd.func60, Tryd.ntmps60
    go_wp2_with fail
    refine (must_true _).mono ?_
    rintro e w ⟨rfl, rfl⟩
    go_wp2_with fail
    refine (HH.out _).mono ?_
    rintro e w ⟨rfl, rfl⟩
    go_wp2_with fail
    exact ⟨rfl, rfl, Below.refl _ _⟩
  | some n =>
    have HH : Hid (∀ w : World, Calls Tryd.prog 59 #[.string sl, .bool false] w fun e w' => e = .returned (.int .u64 (n : Int)) ∧ w' = w) := hh
    have hn := HN.out n rfl
    have an := andNot31 n hn
    show Calls _ _ _ _ fun e w' => e = endU (if 2139095040 < n % 2147483648 then some n else none) ∧ Below w.heap.size w w'
    clear hh HN
    generalize n % 2147483648 = r at *
    by_cases c2 : 2139095040 < r
    · have g2 : (2139095040 : Int) < (r : Int) := by omega
      rw [if_pos c2]
      clear c2
      go_enter Tryd.func60, Tryd.ntmps60
      go_wp2_with fail
      refine (must_true _).mono ?_
      rintro e w ⟨rfl, rfl⟩
      go_wp2_with fail
      refine (HH.out _).mono ?_
      rintro e w ⟨rfl, rfl⟩
      go_wp2_with fail
      refine (layoutOf32 _).mono ?_
      rintro e w1 ⟨rfl, HW1⟩
      have hb1 : Below w.heap.size w w1 := by rw [← HW1]; exact Below.al (Below.refl _ _) _
      clear HW1
      go_wp2_with fail
      refine (infinity32 _).mono ?_
      rintro e w2 ⟨rfl, HW2⟩
      have hb2 : Below w.heap.size w w2 := by rw [← HW2]; exact Below.al hb1 _
      clear HW2
      go_wp2_with fail
      refine (must_true _).mono ?_
      rintro e w2 ⟨rfl, rfl⟩
      go_wp2_with fail
      go_ret
      exact ⟨rfl, hb2⟩
    · have g2 : ¬ (2139095040 : Int) < (r : Int) := by omega
      rw [if_neg c2]
      clear c2
      go_enter Tryd.func60, Tryd.ntmps60
      go_wp2_with fail
      refine (must_true _).mono ?_
      rintro e w ⟨rfl, rfl⟩
      go_wp2_with fail
      refine (HH.out _).mono ?_
      rintro e w ⟨rfl, rfl⟩
      go_wp2_with fail
      refine (layoutOf32 _).mono ?_
      rintro e w1 ⟨rfl, HW1⟩
      have hb1 : Below w.heap.size w w1 := by rw [← HW1]; exact Below.al (Below.refl _ _) _
      clear HW1
      go_wp2_with fail
      refine (infinity32 _).mono ?_
      rintro e w2 ⟨rfl, HW2⟩
      have hb2 : Below w.heap.size w w2 := by rw [← HW2]; exact Below.al hb1 _
      clear HW2
      go_wp2_with fail
      first
        | refine (must_false _).mono ?_
        | (rw [show decide ((2139095040 : Int) < (r : Int)) = false from by simp; omega]; refine (must_false _).mono ?_)
        | (rw [show decide (2139095040 < r) = false from by simp; omega]; refine (must_false _).mono ?_)
      rintro e w2 ⟨rfl, rfl⟩
      go_wp2_with fail
      exact ⟨rfl, rfl, hb2⟩

set_option maxHeartbeats 4000000 in
set_option maxRecDepth 100000 in
theorem floatRd32_any (l : List UInt8) (w : World) (hl : l.length ≤ 1000000) (hT : Tab64 w) :
    Calls Tryd.prog 36 #[.string (str l), .int .i64 4] w fun e w' => e = endU (flt32V l) ∧ Below w.heap.size w w' := by
  have hcp := fun w => Tryd.strings_CutPrefix (str l) ⟨#[110, 97, 110, 58]⟩ w
  rw [show (str l).data.toList = l from rfl, show (⟨#[110, 97, 110, 58]⟩ : ByteArray).data.toList = [110, 97, 110, 58] from rfl] at hcp
  obtain ⟨sl, HSL⟩ : ∃ s, Hid (str l = s) := ⟨_, rfl⟩
  by_cases a0 : Lib.hasPrefix l [110, 97, 110, 58] = true
  · rw [a0] at hcp
    rw [show flt32V l = nan32V (Lib.trimPrefix l [110, 97, 110, 58]) from by unfold flt32V; rw [if_pos a0]]
    have hn := fun w => nanRd32_any (Lib.trimPrefix l [110, 97, 110, 58]) w
    clear a0
    generalize Lib.trimPrefix l [110, 97, 110, 58] = r at *
    have HC : Hid (∀ w : World, Calls Tryd.prog 57 #[.string (str l), .string ⟨#[110, 97, 110, 58]⟩] w fun e w' => e = .returned (.tuple #[.string (str r), .bool true]) ∧ w' = w) := hcp
    rw [HSL.out] at HC ⊢
    generalize str r = sr at *
    generalize nan32V r = v at *
    clear hcp
    cases v with
    | none =>
      have HN : Hid (∀ w : World, Calls Tryd.prog 60 #[.string sr, .int .i64 4] w fun e w' => e = .panicked bad ∧ Below w.heap.size w w') := hn
      clear hn
      go_enter Tryd.func36, Tryd.ntmps36
      go_wp2_with fail
      refine (HC.out _).mono ?_
      rintro e w ⟨rfl, rfl⟩
      go_wp2_with fail
      refine (HN.out _).mono ?_
      rintro e w1 ⟨rfl, hb⟩
      go_wp2_with fail
      exact ⟨rfl, rfl, hb⟩
    | some n =>
      have HN : Hid (∀ w : World, Calls Tryd.prog 60 #[.string sr, .int .i64 4] w fun e w' => e = .returned (.int .u64 (n : Int)) ∧ Below w.heap.size w w') := hn
      clear hn
      go_enter Tryd.func36, Tryd.ntmps36
      go_wp2_with fail
      refine (HC.out _).mono ?_
      rintro e w ⟨rfl, rfl⟩
      go_wp2_with fail
      refine (HN.out _).mono ?_
      rintro e w1 ⟨rfl, hb⟩
      go_wp2_with fail
      go_ret
      exact ⟨rfl, hb⟩
  have a0' : Lib.hasPrefix l [110, 97, 110, 58] = false := by simpa using a0
  rw [a0'] at hcp
  obtain ⟨st, HC⟩ : ∃ st, Hid (∀ w : World, Calls Tryd.prog 57 #[.string (str l), .string ⟨#[110, 97, 110, 58]⟩] w fun e w' => e = .returned (.tuple #[.string st, .bool false]) ∧ w' = w) := ⟨_, hcp⟩
  have hcm := fun w => Tryd.strings_CutPrefix (str l) ⟨#[45]⟩ w
  have tr := trim_one l 45
  rw [show (str l).data.toList = l from rfl, show (⟨#[45]⟩ : ByteArray).data.toList = [45] from rfl, tr.1] at hcm
  have old := hT.old
  by_cases a1 : l.head? = some 45
  · rw [tr.2 a1, show (l.head? == some 45) = true from by simp [a1]] at hcm
    have HM : Hid (∀ w : World, Calls Tryd.prog 57 #[.string (str l), .string ⟨#[45]⟩] w fun e w' => e = .returned (.tuple #[.string (str l.tail), .bool true]) ∧ w' = w) := hcm
    rw [show flt32V l = (szV 23 127 2139095040 l.tail).map fun n => n + 2147483648 from by unfold flt32V; rw [if_neg a0, if_pos a1]]
    have hs := fun w hT => sizeRd32_any l.tail w (by rw [List.length_tail]; omega) hT
    have LE := fun n h => szV_le 23 127 l.tail n h
    rw [HSL.out] at HC HM ⊢
    clear hcp hcm a0 a0' a1 tr
    generalize str l.tail = sr at *
    replace LE : ∀ n, szV 23 127 2139095040 l.tail = some n → n ≤ 2139095040 := LE
    generalize szV 23 127 2139095040 l.tail = v at *
    cases v with
    | none =>
      have HS : Hid (∀ w : World, Tab64 w → Calls Tryd.prog 61 #[.string sr, .agg #[.int .i64 23, .int .i64 127]] w fun e w' => e = .panicked bad ∧ Below w.heap.size w w') := hs
      clear hs LE
      show Calls _ _ _ _ fun e w' => e = .panicked bad ∧ Below w.heap.size w w'
      go_enter Tryd.func36, Tryd.ntmps36
      go_wp2_with fail
      refine (HC.out _).mono ?_
      rintro e w ⟨rfl, rfl⟩
      go_wp2_with fail
      refine (HM.out _).mono ?_
      rintro e w ⟨rfl, rfl⟩
      go_wp2_with fail
      refine (layoutOf32 _).mono ?_
      rintro e w1 ⟨rfl, HW1⟩
      have hb1 : Below w.heap.size w w1 := by rw [← HW1]; exact Below.al (Below.refl _ _) _
      clear HW1
      go_wp2_with fail
      refine (HS.out _ (hT.below hb1 old)).mono ?_
      rintro e w2 ⟨rfl, hb2⟩
      go_wp2_with fail
      exact ⟨rfl, rfl, Below.andThen hb1 hb2⟩
    | some n =>
      have HS : Hid (∀ w : World, Tab64 w → Calls Tryd.prog 61 #[.string sr, .agg #[.int .i64 23, .int .i64 127]] w fun e w' => e = .returned (.int .u64 (n : Int)) ∧ Below w.heap.size w w') := hs
      have hn := LE n rfl
      have orr : bits .or .u64 (n : Int) 2147483648 = ((n + 2147483648 : Nat) : Int) := by
        have hk := bits_join .u64 64 (by decide) wraps_u64 31 (2147483648 : Int) (n : Int) (by omega) (by decide) (by decide) (by omega) (by show (n : Int) < 2147483648; omega) (by have : (2:Int)^64 = 18446744073709551616 := rfl; rw [this]; omega)
        have h1 := u64_or_nat n 2147483648 (by omega) (by decide)
        have h2 := u64_or_nat 2147483648 n (by decide) (by omega)
        rw [Nat.or_comm, ← h2] at h1
        refine h1.trans (hk.trans ?_)
        omega
      clear hs LE
      show Calls _ _ _ _ fun e w' => e = .returned (.int .u64 ((n + 2147483648 : Nat) : Int)) ∧ Below w.heap.size w w'
      generalize n + 2147483648 = q at *
      go_enter Tryd.func36, Tryd.ntmps36
      go_wp2_with fail
      refine (HC.out _).mono ?_
      rintro e w ⟨rfl, rfl⟩
      go_wp2_with fail
      refine (HM.out _).mono ?_
      rintro e w ⟨rfl, rfl⟩
      go_wp2_with fail
      refine (layoutOf32 _).mono ?_
      rintro e w1 ⟨rfl, HW1⟩
      have hb1 : Below w.heap.size w w1 := by rw [← HW1]; exact Below.al (Below.refl _ _) _
      clear HW1
      go_wp2_with fail
      refine (HS.out _ (hT.below hb1 old)).mono ?_
      rintro e w2 ⟨rfl, hb2⟩
      go_wp2_with fail
      go_ret
      exact ⟨rfl, Below.andThen hb1 hb2⟩
  · rw [show (l.head? == some 45) = false from by simpa using a1] at hcm
    have htr : Lib.trimPrefix l [45] = l := by unfold Lib.trimPrefix; rw [tr.1, if_neg (by simpa using a1)]
    rw [htr] at hcm
    have HM : Hid (∀ w : World, Calls Tryd.prog 57 #[.string (str l), .string ⟨#[45]⟩] w fun e w' => e = .returned (.tuple #[.string (str l), .bool false]) ∧ w' = w) := hcm
    rw [show flt32V l = szV 23 127 2139095040 l from by unfold flt32V; rw [if_neg a0, if_neg a1]]
    have hs := fun w hT => sizeRd32_any l w hl hT
    rw [HSL.out] at HC HM hs ⊢
    clear hcp hcm a0 a0' a1 tr htr
    generalize szV 23 127 2139095040 l = v at *
    cases v with
    | none =>
      have HS : Hid (∀ w : World, Tab64 w → Calls Tryd.prog 61 #[.string sl, .agg #[.int .i64 23, .int .i64 127]] w fun e w' => e = .panicked bad ∧ Below w.heap.size w w') := hs
      clear hs
      show Calls _ _ _ _ fun e w' => e = .panicked bad ∧ Below w.heap.size w w'
      go_enter Tryd.func36, Tryd.ntmps36
      go_wp2_with fail
      refine (HC.out _).mono ?_
      rintro e w ⟨rfl, rfl⟩
      go_wp2_with fail
      refine (HM.out _).mono ?_
      rintro e w ⟨rfl, rfl⟩
      go_wp2_with fail
      refine (layoutOf32 _).mono ?_
      rintro e w1 ⟨rfl, HW1⟩
      have hb1 : Below w.heap.size w w1 := by rw [← HW1]; exact Below.al (Below.refl _ _) _
      clear HW1
      go_wp2_with fail
      refine (HS.out _ (hT.below hb1 old)).mono ?_
      rintro e w2 ⟨rfl, hb2⟩
      go_wp2_with fail
      exact ⟨rfl, rfl, Below.andThen hb1 hb2⟩
    | some n =>
      have HS : Hid (∀ w : World, Tab64 w → Calls Tryd.prog 61 #[.string sl, .agg #[.int .i64 23, .int .i64 127]] w fun e w' => e = .returned (.int .u64 (n : Int)) ∧ Below w.heap.size w w') := hs
      clear hs
      show Calls _ _ _ _ fun e w' => e = .returned (.int .u64 (n : Int)) ∧ Below w.heap.size w w'
      go_enter Tryd.func36, Tryd.ntmps36
      go_wp2_with fail
      refine (HC.out _).mono ?_
      rintro e w ⟨rfl, rfl⟩
      go_wp2_with fail
      refine (HM.out _).mono ?_
      rintro e w ⟨rfl, rfl⟩
      go_wp2_with fail
      refine (layoutOf32 _).mono ?_
      rintro e w1 ⟨rfl, HW1⟩
      have hb1 : Below w.heap.size w w1 := by rw [← HW1]; exact Below.al (Below.refl _ _) _
      clear HW1
      go_wp2_with fail
      refine (HS.out _ (hT.below hb1 old)).mono ?_
      rintro e w2 ⟨rfl, hb2⟩
      go_wp2_with fail
      go_ret
      exact ⟨rfl, Below.andThen hb1 hb2⟩
#print axioms floatRd32_any
end Go.Proofs.YtndogfemnpgfoaaDoor
namespace Go.Proofs.YtndogfemnpgfoaaDoor
open Pl Go.RowKit

/-- The bytes of a text of a type. -/
def valN (t : Int) (l : List UInt8) : Option (List Int) :=
  if kindN t = 1 then truV l
  else if kindN t = 2 ∨ kindN t = 3 then intV t l
  else if kindN t = 4 then (if t = 17 then (flt64V l).map fun n => bytesL (n : Int) 8 else (flt32V l).map fun n => bytesL (n : Int) 4)
  else if kindN t = 5 then momV l
  else if kindN t = 6 then txtV l
  else octV l

set_option maxRecDepth 100000 in
theorem readV1 (z : Int) (l : List UInt8) (W : World) : Calls Tryd.prog 18 #[.int .u8 1, .int .i64 z, .string (str l)] W (ReadsTo W (truV l)) := by
  have h := fun W => truth_any l W
  generalize str l = s at *
  generalize truV l = v at *
  cases v with
  | none =>
    go_enter Tryd.func18, Tryd.ntmps18
    go_wp2_with fail
    refine (h _).mono ?_
    rintro e w ⟨rfl, hb⟩
    go_wp2_with fail
    exact ⟨rfl, rfl, hb⟩
  | some zs =>
    go_enter Tryd.func18, Tryd.ntmps18
    go_wp2_with fail
    refine (h _).mono ?_
    rintro e w ⟨⟨a, len, cap, rfl, ht⟩, hb⟩
    go_wp2_with fail
    go_ret
    exact ⟨⟨_, _, _, rfl, ht⟩, hb⟩

set_option maxRecDepth 100000 in
theorem readV5 (z : Int) (l : List UInt8) (W : World) (hl : l.length ≤ 1000000) : Calls Tryd.prog 18 #[.int .u8 5, .int .i64 z, .string (str l)] W (ReadsTo W (momV l)) := by
  have h := fun W => momentRd_any l W hl
  generalize str l = s at *
  generalize momV l = v at *
  cases v with
  | none =>
    go_enter Tryd.func18, Tryd.ntmps18
    go_wp2_with fail
    refine (h _).mono ?_
    rintro e w ⟨rfl, hb⟩
    go_wp2_with fail
    exact ⟨rfl, rfl, hb⟩
  | some zs =>
    go_enter Tryd.func18, Tryd.ntmps18
    go_wp2_with fail
    refine (h _).mono ?_
    rintro e w ⟨⟨a, len, cap, rfl, ht⟩, hb⟩
    go_wp2_with fail
    go_ret
    exact ⟨⟨_, _, _, rfl, ht⟩, hb⟩

set_option maxRecDepth 100000 in
theorem readV6 (z : Int) (l : List UInt8) (W : World) (hl : l.length ≤ 1000000) : Calls Tryd.prog 18 #[.int .u8 6, .int .i64 z, .string (str l)] W (ReadsTo W (txtV l)) := by
  have h := fun W => textRd_any l W hl
  generalize str l = s at *
  generalize txtV l = v at *
  cases v with
  | none =>
    go_enter Tryd.func18, Tryd.ntmps18
    go_wp2_with fail
    refine (h _).mono ?_
    rintro e w ⟨rfl, hb⟩
    go_wp2_with fail
    exact ⟨rfl, rfl, hb⟩
  | some zs =>
    go_enter Tryd.func18, Tryd.ntmps18
    go_wp2_with fail
    refine (h _).mono ?_
    rintro e w ⟨⟨a, len, cap, rfl, ht⟩, hb⟩
    go_wp2_with fail
    go_ret
    exact ⟨⟨_, _, _, rfl, ht⟩, hb⟩

set_option maxRecDepth 100000 in
theorem readV7 (z : Int) (l : List UInt8) (W : World) (hl : l.length ≤ 1000000) : Calls Tryd.prog 18 #[.int .u8 7, .int .i64 z, .string (str l)] W (ReadsTo W (octV l)) := by
  have h := fun W => octetsRd_any l W hl
  generalize str l = s at *
  generalize octV l = v at *
  cases v with
  | none =>
    go_enter Tryd.func18, Tryd.ntmps18
    go_wp2_with fail
    refine (h _).mono ?_
    rintro e w ⟨rfl, hb⟩
    go_wp2_with fail
    exact ⟨rfl, rfl, hb⟩
  | some zs =>
    go_enter Tryd.func18, Tryd.ntmps18
    go_wp2_with fail
    refine (h _).mono ?_
    rintro e w ⟨⟨a, len, cap, rfl, ht⟩, hb⟩
    go_wp2_with fail
    go_ret
    exact ⟨⟨_, _, _, rfl, ht⟩, hb⟩

set_option maxRecDepth 100000 in
theorem readV48 (l : List UInt8) (W : World) (hl : l.length ≤ 1000000) (hT : Tab64 W) : Calls Tryd.prog 18 #[.int .u8 4, .int .i64 8, .string (str l)] W (ReadsTo W ((flt64V l).map fun n => bytesL (n : Int) 8)) := by
  have h := floatRd64_any l W hl hT
  generalize str l = s at *
  generalize flt64V l = v at *
  cases v with
  | none =>
    replace h : Calls Tryd.prog 36 #[.string s, .int .i64 8] W fun e w' => e = .panicked bad ∧ Below W.heap.size W w' := h
    show Calls _ _ _ _ (ReadsTo W none)
    go_enter Tryd.func18, Tryd.ntmps18
    go_wp2_with fail
    refine h.mono ?_
    rintro e w ⟨rfl, hb⟩
    go_wp2_with fail
    exact ⟨rfl, rfl, hb⟩
  | some n =>
    replace h : Calls Tryd.prog 36 #[.string s, .int .i64 8] W fun e w' => e = .returned (.int .u64 (n : Int)) ∧ Below W.heap.size W w' := h
    show Calls _ _ _ _ (ReadsTo W (some (bytesL (n : Int) 8)))
    go_enter Tryd.func18, Tryd.ntmps18
    go_wp2_with fail
    refine h.mono ?_
    rintro e w ⟨rfl, hb⟩
    go_wp2_with fail
    refine (bytesOf_any (n : Int) 8 _ (by omega) (by decide)).mono ?_
    rintro e w2 ⟨v, rfl, hf⟩
    obtain ⟨hr, rfl, hz, hb2⟩ := hf
    go_wp2_with fail
    go_ret
    exact reads_bytes hb ⟨hr, rfl, hz, hb2⟩ (by decide)

set_option maxRecDepth 100000 in
theorem readV44 (l : List UInt8) (W : World) (hl : l.length ≤ 1000000) (hT : Tab64 W) : Calls Tryd.prog 18 #[.int .u8 4, .int .i64 4, .string (str l)] W (ReadsTo W ((flt32V l).map fun n => bytesL (n : Int) 4)) := by
  have h := floatRd32_any l W hl hT
  generalize str l = s at *
  generalize flt32V l = v at *
  cases v with
  | none =>
    replace h : Calls Tryd.prog 36 #[.string s, .int .i64 4] W fun e w' => e = .panicked bad ∧ Below W.heap.size W w' := h
    show Calls _ _ _ _ (ReadsTo W none)
    go_enter Tryd.func18, Tryd.ntmps18
    go_wp2_with fail
    refine h.mono ?_
    rintro e w ⟨rfl, hb⟩
    go_wp2_with fail
    exact ⟨rfl, rfl, hb⟩
  | some n =>
    replace h : Calls Tryd.prog 36 #[.string s, .int .i64 4] W fun e w' => e = .returned (.int .u64 (n : Int)) ∧ Below W.heap.size W w' := h
    show Calls _ _ _ _ (ReadsTo W (some (bytesL (n : Int) 4)))
    go_enter Tryd.func18, Tryd.ntmps18
    go_wp2_with fail
    refine h.mono ?_
    rintro e w ⟨rfl, hb⟩
    go_wp2_with fail
    refine (bytesOf_any (n : Int) 4 _ (by omega) (by decide)).mono ?_
    rintro e w2 ⟨v, rfl, hf⟩
    obtain ⟨hr, rfl, hz, hb2⟩ := hf
    go_wp2_with fail
    go_ret
    exact reads_bytes hb ⟨hr, rfl, hz, hb2⟩ (by decide)

/-- Value of any text of any type that is one. -/
theorem value_any (t : Int) (l : List UInt8) (w : World) (hk : kindN t ≠ 0) (hl : l.length ≤ 1000000) (hT : Tabs w) :
    Calls Tryd.prog 8 #[.int .u8 t, .string (str l)] w (ValueTo w (valN t l)) := by
  have hb := kind_bd t
  unfold valN
  by_cases h1 : kindN t = 1
  · rw [if_pos h1]
    exact value_of t _ _ w hk hT fun W _ => by rw [h1]; exact readV1 _ l W
  rw [if_neg h1]
  by_cases h2 : kindN t = 2 ∨ kindN t = 3
  · rw [if_pos h2]
    exact valueInt_any t l w h2 hl hT
  rw [if_neg h2]
  by_cases h4 : kindN t = 4
  · rw [if_pos h4]
    rcases float_types t h4 with ⟨rfl, hs⟩ | ⟨rfl, hs⟩
    · rw [if_neg (by decide)]
      exact value_of 8 _ _ w hk hT fun W hW => by rw [h4, hs]; exact readV44 l W hl hW.t64
    · rw [if_pos rfl]
      exact value_of 17 _ _ w hk hT fun W hW => by rw [h4, hs]; exact readV48 l W hl hW.t64
  rw [if_neg h4]
  by_cases h5 : kindN t = 5
  · rw [if_pos h5]
    exact value_of t _ _ w hk hT fun W _ => by rw [h5]; exact readV5 _ l W hl
  rw [if_neg h5]
  by_cases h6 : kindN t = 6
  · rw [if_pos h6]
    exact value_of t _ _ w hk hT fun W _ => by rw [h6]; exact readV6 _ l W hl
  rw [if_neg h6]
  have h7 : kindN t = 7 := by omega
  exact value_of t _ _ w hk hT fun W _ => by rw [h7]; exact readV7 _ l W hl

set_option maxRecDepth 100000 in
/-- Value of a type that is none. -/
theorem value_none (t : Int) (s : ByteArray) (w : World) (hk : kindN t = 0) :
    Calls Tryd.prog 8 #[.int .u8 t, .string s] w fun e w' => e = .returned (.tuple #[.slice none 0 0, .int .i64 10]) ∧ Below w.heap.size w w' := by
  go_enter_defers Tryd.func8, Tryd.ntmps8
  go_wp2_with fail
  refine (kindOf_any _ _).mono ?_
  rintro e w ⟨rfl, rfl⟩
  rw [hk]
  go_wp2_with fail
  simp [bodyPostD, Leaves, results, Tryd.results8, go_sem]
  exact Below.al (Below.al (Below.refl _ _) _) _
#print axioms value_any
end Go.Proofs.YtndogfemnpgfoaaDoor
