/-
  together as a function, and the walk of readSize, of both layouts.
-/
import Derived.Test.YtkfmmpolcjbnbaaDoorRd8
import Derived.Test.YtkfmmpolcjbnbaaDoorTogS
import Derived.Test.YtkfmmpolcjbnbaaDoorWide
import Derived.Deep.RegionHeld3
namespace Go.Proofs.YtkfmmpolcjbnbaaDoor
open Pl Go.RowKit

/-- The bits of M times 2^E, M odd and of L bits, in a layout of so many bits of fraction; none: it is no float there. -/
def togM (fb : Nat) (bias E : Int) (M L : Nat) : Option Nat :=
  if E < 1 - bias - fb ∨ bias < E + L - 1 ∨ fb + 1 < L then none
  else if E + L - 1 < 1 - bias then some (M * 2 ^ (E - (1 - bias - fb)).toNat)
  else some ((E + L - 1 + bias).toNat * 2 ^ fb + (M * 2 ^ (fb + 1 - L) - 2 ^ fb))
/-- The bits of m times 2^e. -/
def togV (fb : Nat) (bias : Int) (m : Nat) (e : Int) : Option Nat :=
  if m = 0 then some 0 else togM fb bias (e + (Lib.ctz 64 m : Int)) (m / 2 ^ Lib.ctz 64 m) (Lib.bitLen (m / 2 ^ Lib.ctz 64 m))

/-- How together ends. -/
def endT : Option Nat → Value
  | some n => .tuple #[.int .u64 (n : Int), .bool true]
  | none => .tuple #[.int .u64 0, .bool false]
/-- A number of 64 bits with its sign. -/
def toI (q : Nat) : Int := if q < 9223372036854775808 then (q : Int) else (q : Int) - 18446744073709551616
theorem toI_wrap (q : Nat) (h : q < 18446744073709551616) : IntKind.i64.wrap (q : Int) = toI q := by
  rw [IntKind.wrap_i64]
  unfold toI
  split <;> omega
theorem sgnV_bd (l : List UInt8) (q : Nat) (h : sgnV 9999 9999 l = some q) : q < 18446744073709551616 ∧ -9999 ≤ toI q ∧ toI q ≤ 9999 := by
  have hd : ∀ (l : List UInt8) (n : Nat), decV 9999 l = some n → n ≤ 9999 := fun l n hn => by
    unfold decV at hn
    split at hn
    · exact decFold_le 9999 _ 0 n (Nat.zero_le _) hn
    · simp at hn
  unfold sgnV at h
  split at h
  · cases hv : decV 9999 l.tail with
    | none => rw [hv] at h; simp at h
    | some n =>
      have := hd _ _ hv
      rw [hv] at h
      by_cases h0 : n = 0
      · simp [h0] at h
      · simp [h0] at h
        subst h
        unfold toI
        rw [if_neg (by omega)]
        omega
  · have := hd _ _ h
    unfold toI
    rw [if_pos (by omega)]
    omega
/-- The bits of a float without a sign. -/
def szV (fb : Nat) (bias : Int) (inf : Nat) (l : List UInt8) : Option Nat :=
  if l = [105, 110, 102] then some inf
  else (cutU 112 l).bind fun p => (sgnV 9999 9999 p.2).bind fun q => (decV 18446744073709551615 p.1).bind fun m => togV fb bias m (toI q)

theorem tog64_any (m : Nat) (e : Int) (w : World) (hm : m < 18446744073709551616) (he0 : -10000 ≤ e) (he1 : e ≤ 10000) (hT : Tab64 w) :
    Calls Tryd.prog 68 #[.agg #[.int .i64 52, .int .i64 1023], .int .u64 (m : Int), .int .i64 e] w fun r w' => r = .returned (endT (togV 52 1023 m e)) ∧ Below w.heap.size w w' := by
  by_cases h0 : m = 0
  · subst h0
    exact together0_64 e w
  obtain ⟨M, z, L, hg, hz, hmz, hodd, hL1, hL64, hM1, hM2, hM64⟩ := ctz_split m h0 hm
  have hV : togV 52 1023 m e = togM 52 1023 (e + (z : Int)) M L := by
    unfold togV
    rw [if_neg h0, hg.hz, hg.hM, hg.hL]
  rw [hV]
  have hg' : Tog64 m e M z L := ⟨hg.m0, hg.m1, he0, he1, hg.hz, hg.hM, hg.hL⟩
  unfold togM
  by_cases c1 : e + (z : Int) < 1 - 1023 - (52 : Nat) ∨ (1023 : Int) < e + (z : Int) + L - 1 ∨ 52 + 1 < L
  · rw [if_pos c1]
    exact togetherBad64 m e M z L _ w hg' hT rfl hz hL64 hM64 (by omega)
  rw [if_neg c1]
  obtain ⟨k, hk⟩ : ∃ k : Nat, e + (z : Int) = (k : Int) - 1074 := ⟨(e + (z : Int) + 1074).toNat, by omega⟩
  by_cases c2 : e + (z : Int) + L - 1 < 1 - 1023
  · rw [if_pos c2]
    have e1 : (e + (z : Int) - (1 - 1023 - (52 : Nat))).toNat = k := by omega
    rw [e1]
    have hs := (tog_small 52 k L M hM2 (by omega)).1
    exact togetherLow64 m e M z L k w hg' hT hk hz (by omega) (by omega) hM64 hs
  · rw [if_neg c2]
    have e1 : (e + (z : Int) + L - 1 + 1023).toNat = k + L - 52 := by omega
    rw [e1]
    obtain ⟨t1, t2, t3⟩ := tog_big 52 k L M hM1 hM2 hL1 (by omega) (by omega)
    exact togetherHigh64 m e M z L k w hg' hT hk hz (by omega) (by omega) (by omega) hM64 ⟨t1, t2⟩

set_option linter.unusedSimpArgs false in
set_option maxHeartbeats 4000000 in
set_option maxRecDepth 100000 in
theorem sizeRd64_any (l : List UInt8) (w : World) (hl : l.length ≤ 1000000) (hT : Tab64 w) :
    Calls Tryd.prog 61 #[.string (str l), .agg #[.int .i64 52, .int .i64 1023]] w fun e w' => e = endU (szV 52 1023 9218868437227405312 l) ∧ Below w.heap.size w w' := by
  have hc := fun w => cutC_any 112 l w hl
  unfold cutT at hc
  obtain ⟨sl, HSL, hsl, _, _⟩ := str_facts l
  rw [HSL.out] at hc ⊢
  by_cases a0 : l = [105, 110, 102]
  · have HE : Hid (endU (szV 52 1023 9218868437227405312 l) = .returned (.int .u64 9218868437227405312)) := by show _ = _; unfold szV; rw [if_pos a0]; rfl
    rw [HE.out]
    have b0 : (l == [105, 110, 102]) = true := by simp [a0]
    clear hc HE
    go_enter Tryd.func61, Tryd.ntmps61
    go_wp2_with fail
    refine (infinity64 _).mono ?_
    rintro e w1 ⟨rfl, HW⟩
    have hb : Below w.heap.size w w1 := by rw [← HW]; exact Below.al (Below.al (Below.refl _ _) _) _
    clear HW
    go_wp2_with fail
    go_ret
    exact ⟨rfl, hb⟩
  have b0 : (l == [105, 110, 102]) = false := by simp [a0]
  have SZ : Hid (szV 52 1023 9218868437227405312 l = (cutU 112 l).bind fun p => (sgnV 9999 9999 p.2).bind fun q => (decV 18446744073709551615 p.1).bind fun m => togV 52 1023 m (toI q)) := by show _ = _; unfold szV; rw [if_neg a0]
  rw [SZ.out]
  clear SZ
  cases hq : cutU 112 l with
  | none =>
    rw [hq] at hc
    have HC : Hid (∀ w : World, Calls Tryd.prog 63 #[.string sl, .string ⟨#[112]⟩] w fun e w' => e = .returned (.tuple #[.string sl, .string ⟨#[]⟩, .bool false]) ∧ Below w.heap.size w w') := hc
    show Calls _ _ _ _ fun e w' => e = .panicked bad ∧ Below w.heap.size w w'
    clear hc hq
    go_enter Tryd.func61, Tryd.ntmps61
    go_wp2_with fail
    refine (HC.out _).mono ?_
    rintro e w1 ⟨rfl, hb⟩
    have hb : Below w.heap.size w w1 := Below.andThen (Below.al (Below.refl _ _) _) hb
    go_wp2_with fail
    refine (must_false _).mono ?_
    rintro e w1 ⟨rfl, rfl⟩
    go_wp2_with fail
    exact ⟨rfl, rfl, hb⟩
  | some p =>
    obtain ⟨m, x⟩ := p
    rw [hq] at hc
    have he := cutU_eq 112 l _ hq
    have hlen : l.length = m.length + 1 + x.length := by rw [he]; simp; omega
    have h1 := fun w => signedRd_any x 9999 9999 w (by decide) (by decide) (by omega)
    have h2 := fun w => decimal_any m 18446744073709551615 w (by decide) (by omega)
    have BD := fun q h => sgnV_bd x q h
    have DM : Hid (∀ n, decV 18446744073709551615 m = some n → n < 18446744073709551616) := fun n hn => by
      unfold decV at hn
      split at hn
      · have := decFold_le 18446744073709551615 _ 0 n (Nat.zero_le _) hn; omega
      · simp at hn
    show Calls _ _ _ _ fun e w' => e = endU ((sgnV 9999 9999 x).bind fun q => (decV 18446744073709551615 m).bind fun m => togV 52 1023 m (toI q)) ∧ Below w.heap.size w w'
    dsimp only at hc
    clear he hlen hq a0
    generalize str m = sm at *
    generalize str x = sx at *
    have HC : Hid (∀ w : World, Calls Tryd.prog 63 #[.string sl, .string ⟨#[112]⟩] w fun e w' => e = .returned (.tuple #[.string sm, .string sx, .bool true]) ∧ Below w.heap.size w w') := hc
    clear hc
    generalize sgnV 9999 9999 x = v1 at *
    generalize decV 18446744073709551615 m = v2 at *
    cases v1 with
    | none =>
      have H1 : Hid (∀ w : World, Calls Tryd.prog 34 #[.string sx, .int .u64 9999, .int .u64 9999] w fun e w' => e = .panicked bad ∧ w' = w) := h1
      clear h1 h2 BD
      show Calls _ _ _ _ fun e w' => e = .panicked bad ∧ Below w.heap.size w w'
      go_enter Tryd.func61, Tryd.ntmps61
      go_wp2_with fail
      refine (HC.out _).mono ?_
      rintro e w1 ⟨rfl, hb⟩
      have hb : Below w.heap.size w w1 := Below.andThen (Below.al (Below.refl _ _) _) hb
      go_wp2_with fail
      refine (must_true _).mono ?_
      rintro e w1 ⟨rfl, rfl⟩
      go_wp2_with fail
      refine (H1.out _).mono ?_
      rintro e w1 ⟨rfl, rfl⟩
      go_wp2_with fail
      exact ⟨rfl, rfl, hb⟩
    | some q =>
      have H1 : Hid (∀ w : World, Calls Tryd.prog 34 #[.string sx, .int .u64 9999, .int .u64 9999] w fun e w' => e = .returned (.int .u64 (q : Int)) ∧ w' = w) := h1
      obtain ⟨q0, q1, q2⟩ := BD q rfl
      have wq := toI_wrap q q0
      show Calls _ _ _ _ fun e w' => e = endU (v2.bind fun m => togV 52 1023 m (toI q)) ∧ Below w.heap.size w w'
      generalize toI q = ee at *
      clear h1 BD
      have BX : Hid (∀ w1 : World, Below (w.alloc (.cells #[.int .i64 52, .int .i64 1023] 92)).heap.size (w.alloc (.cells #[.int .i64 52, .int .i64 1023] 92)) w1 → w1.cell? ⟨w.heap.size, 0, none⟩ = some (.int .i64 52) ∧ w1.cell? ⟨w.heap.size, 1, none⟩ = some (.int .i64 1023) ∧ Below w.heap.size w w1) := fun w1 hb =>
        ⟨(hb.cell (by simp <;> omega)).trans (by simp [go_sem]), (hb.cell (by simp <;> omega)).trans (by simp [go_sem]), Below.andThen (Below.al (Below.refl _ _) _) hb⟩
      cases v2 with
      | none =>
        have H2 : Hid (∀ w : World, Calls Tryd.prog 58 #[.string sm, .int .u64 18446744073709551615] w fun e w' => e = .panicked bad ∧ w' = w) := h2
        clear h2
        show Calls _ _ _ _ fun e w' => e = .panicked bad ∧ Below w.heap.size w w'
        go_enter Tryd.func61, Tryd.ntmps61
        go_wp2_with fail
        refine (HC.out _).mono ?_
        rintro e w1 ⟨rfl, hb0⟩
        obtain ⟨c0, c1, hb⟩ := BX.out w1 hb0
        clear hb0 BX
        go_wp2_with fail
        refine (must_true _).mono ?_
        rintro e w1 ⟨rfl, rfl⟩
        go_wp2_with fail
        refine (H1.out _).mono ?_
        rintro e w1 ⟨rfl, rfl⟩
        go_wp2_with fail
        refine wp_region_held_drew (S := fun x => Below w.heap.size w x ∧ x.cell? ⟨w.heap.size, 0, none⟩ = some (.int .i64 52) ∧ x.cell? ⟨w.heap.size, 1, none⟩ = some (.int .i64 1023)) (by kernel_rfl) ⟨Below.drew hb, c0, c1⟩ (fun hHeld => ?_)
        refine wpAnyH_take (i := 0) (v := (.agg #[.int .i64 52, .int .i64 1023])) rfl (by kernel_rfl) (by kernel_rfl) (by kernel_rfl) (fun _ _ _ h => h) (Or.inl ⟨by rfl, ?_⟩) (by assumption) ?_
        · intro w9 hSw
          try dsimp only at hSw
          go_simp
        try simp only [Act.put, List.getElem_toArray, List.getElem_cons_succ, List.getElem_cons_zero, List.setIfInBounds_toArray, List.set_cons_zero, List.set_cons_succ]
        refine wpAnyH_take (i := 1) (v := (.string sm)) rfl (by kernel_rfl) (by kernel_rfl) (by kernel_rfl) (fun _ _ _ h => h) (Or.inl ⟨by rfl, ?_⟩) (by assumption) ?_
        · intro w9 hSw
          try dsimp only at hSw
          go_simp
        try simp only [Act.put, List.getElem_toArray, List.getElem_cons_succ, List.getElem_cons_zero, List.setIfInBounds_toArray, List.set_cons_zero, List.set_cons_succ]
        refine wpAnyH_take (i := 3) (v := (.int .i64 ee)) rfl (by kernel_rfl) (by kernel_rfl) (by kernel_rfl) (fun _ _ _ h => h) (Or.inl ⟨by rfl, ?_⟩) (by assumption) ?_
        · intro w9 hSw
          try dsimp only at hSw
          go_simp
        try simp only [Act.put, List.getElem_toArray, List.getElem_cons_succ, List.getElem_cons_zero, List.setIfInBounds_toArray, List.set_cons_zero, List.set_cons_succ]
        refine wpAnyH_ready (rs := [2]) (by kernel_rfl) (by simp) ?_
        refine AllReadyH.cons rfl (fun K' hK => ?_) AllReadyH.nil
        rw [if_pos (by rfl)]
        simp only [List.getElem_toArray, List.getElem_cons_succ, List.getElem_cons_zero]
        go_wp2_with fail
        refine (H2.out _).mono ?_
        rintro e z ⟨rfl, rfl⟩
        go_wp2_with fail
        exact ⟨rfl, rfl, hHeld.1⟩
      | some n =>
        have H2 : Hid (∀ w : World, Calls Tryd.prog 58 #[.string sm, .int .u64 18446744073709551615] w fun e w' => e = .returned (.int .u64 (n : Int)) ∧ w' = w) := h2
        have n1 := DM.out n rfl
        have H3 := fun w hT => tog64_any n ee w n1 (by omega) (by omega) hT
        show Calls _ _ _ _ fun e w' => e = endU (togV 52 1023 n ee) ∧ Below w.heap.size w w'
        generalize togV 52 1023 n ee = v3 at *
        have old := hT.old
        clear h2 DM n1
        cases v3 with
        | none =>
          have H3' : Hid (∀ w, Tab64 w → Calls Tryd.prog 68 #[.agg #[.int .i64 52, .int .i64 1023], .int .u64 (n : Int), .int .i64 ee] w fun r w' => r = .returned (.tuple #[.int .u64 0, .bool false]) ∧ Below w.heap.size w w') := H3
          clear H3
          show Calls _ _ _ _ fun e w' => e = .panicked bad ∧ Below w.heap.size w w'
          go_enter Tryd.func61, Tryd.ntmps61
          go_wp2_with fail
          refine (HC.out _).mono ?_
          rintro e w1 ⟨rfl, hb0⟩
          obtain ⟨c0, c1, hb⟩ := BX.out w1 hb0
          clear hb0 BX
          go_wp2_with fail
          refine (must_true _).mono ?_
          rintro e w1 ⟨rfl, rfl⟩
          go_wp2_with fail
          refine (H1.out _).mono ?_
          rintro e w1 ⟨rfl, rfl⟩
          go_wp2_with fail
          refine wp_region_held_drew (S := fun x => Below w.heap.size w x ∧ x.cell? ⟨w.heap.size, 0, none⟩ = some (.int .i64 52) ∧ x.cell? ⟨w.heap.size, 1, none⟩ = some (.int .i64 1023)) (by kernel_rfl) ⟨Below.drew hb, c0, c1⟩ (fun hHeld => ?_)
          refine wpAnyH_take (i := 0) (v := (.agg #[.int .i64 52, .int .i64 1023])) rfl (by kernel_rfl) (by kernel_rfl) (by kernel_rfl) (fun _ _ _ h => h) (Or.inl ⟨by rfl, ?_⟩) (by assumption) ?_
          · intro w9 hSw
            try dsimp only at hSw
            go_simp
          try simp only [Act.put, List.getElem_toArray, List.getElem_cons_succ, List.getElem_cons_zero, List.setIfInBounds_toArray, List.set_cons_zero, List.set_cons_succ]
          refine wpAnyH_take (i := 1) (v := (.string sm)) rfl (by kernel_rfl) (by kernel_rfl) (by kernel_rfl) (fun _ _ _ h => h) (Or.inl ⟨by rfl, ?_⟩) (by assumption) ?_
          · intro w9 hSw
            try dsimp only at hSw
            go_simp
          try simp only [Act.put, List.getElem_toArray, List.getElem_cons_succ, List.getElem_cons_zero, List.setIfInBounds_toArray, List.set_cons_zero, List.set_cons_succ]
          refine wpAnyH_take (i := 3) (v := (.int .i64 ee)) rfl (by kernel_rfl) (by kernel_rfl) (by kernel_rfl) (fun _ _ _ h => h) (Or.inl ⟨by rfl, ?_⟩) (by assumption) ?_
          · intro w9 hSw
            try dsimp only at hSw
            go_simp
          try simp only [Act.put, List.getElem_toArray, List.getElem_cons_succ, List.getElem_cons_zero, List.setIfInBounds_toArray, List.set_cons_zero, List.set_cons_succ]
          refine wpAnyH_ready (rs := [2]) (by kernel_rfl) (by simp) ?_
          refine AllReadyH.cons rfl (fun K' hK => ?_) AllReadyH.nil
          rw [if_pos (by rfl)]
          simp only [List.getElem_toArray, List.getElem_cons_succ, List.getElem_cons_zero]
          go_wp2_with fail
          refine (H2.out _).mono ?_
          rintro e z ⟨rfl, rfl⟩
          try go_wp2_with fail
          refine hK.out _ _ hHeld (fun hHeld => ?_)
          clear hK K'
          try simp only [Act.put, List.getElem_toArray, List.getElem_cons_succ, List.getElem_cons_zero, List.setIfInBounds_toArray, List.set_cons_zero, List.set_cons_succ]
          refine wpAnyH_ready (rs := [4]) (by kernel_rfl) (by simp) ?_
          refine AllReadyH.cons rfl (fun K' hK => ?_) AllReadyH.nil
          rw [if_pos (by rfl)]
          simp only [List.getElem_toArray, List.getElem_cons_succ, List.getElem_cons_zero]
          go_wp2_with fail
          refine (H3'.out _ (hT.below (And.left hHeld) old)).mono ?_
          rintro e z2 ⟨rfl, hbx⟩
          try go_wp2_with fail
          have hHeld : Below w.heap.size w z2 ∧ z2.cell? ⟨w.heap.size, 0, none⟩ = some (.int .i64 52) ∧ z2.cell? ⟨w.heap.size, 1, none⟩ = some (.int .i64 1023) := ⟨Below.andThen hHeld.1 hbx, (hbx.cell (p := ⟨w.heap.size, 0, none⟩) (block_lt_of_cell hHeld.2.1)).trans hHeld.2.1, (hbx.cell (p := ⟨w.heap.size, 1, none⟩) (block_lt_of_cell hHeld.2.2)).trans hHeld.2.2⟩
          refine hK.out _ _ hHeld (fun hHeld => ?_)
          clear hK K'
          try simp only [Act.put, List.getElem_toArray, List.getElem_cons_succ, List.getElem_cons_zero, List.setIfInBounds_toArray, List.set_cons_zero, List.set_cons_succ]
          refine wpAnyH_take (i := 5) (v := (.tuple #[.int .u64 0, .bool false])) rfl (by kernel_rfl) (by kernel_rfl) (by kernel_rfl) (fun _ _ _ h => h) (Or.inl ⟨by rfl, ?_⟩) (by assumption) ?_
          · intro w9 hSw
            try dsimp only at hSw
            go_simp
          try simp only [Act.put, List.getElem_toArray, List.getElem_cons_succ, List.getElem_cons_zero, List.setIfInBounds_toArray, List.set_cons_zero, List.set_cons_succ]
          refine wpAnyH_take (i := 6) (v := (.int .u64 0)) rfl (by kernel_rfl) (by kernel_rfl) (by kernel_rfl) (fun _ _ _ h => h) (Or.inl ⟨by rfl, ?_⟩) (by assumption) ?_
          · intro w9 hSw
            try dsimp only at hSw
            go_simp
          try simp only [Act.put, List.getElem_toArray, List.getElem_cons_succ, List.getElem_cons_zero, List.setIfInBounds_toArray, List.set_cons_zero, List.set_cons_succ]
          refine wpAnyH_take (i := 7) (v := (.bool false)) rfl (by kernel_rfl) (by kernel_rfl) (by kernel_rfl) (fun _ _ _ h => h) (Or.inl ⟨by rfl, ?_⟩) (by assumption) ?_
          · intro w9 hSw
            try dsimp only at hSw
            go_simp
          try simp only [Act.put, List.getElem_toArray, List.getElem_cons_succ, List.getElem_cons_zero, List.setIfInBounds_toArray, List.set_cons_zero, List.set_cons_succ]
          refine wpAnyH_take (i := 8) (v := (.int .u64 0)) rfl (by kernel_rfl) (by kernel_rfl) (by kernel_rfl) (fun _ _ _ h => h) (Or.inl ⟨by rfl, ?_⟩) (by assumption) ?_
          · intro w9 hSw
            try dsimp only at hSw
            go_simp
          try simp only [Act.put, List.getElem_toArray, List.getElem_cons_succ, List.getElem_cons_zero, List.setIfInBounds_toArray, List.set_cons_zero, List.set_cons_succ]
          refine wpAnyH_take (i := 9) (v := (.bool false)) rfl (by kernel_rfl) (by kernel_rfl) (by kernel_rfl) (fun _ _ _ h => h) (Or.inl ⟨by rfl, ?_⟩) (by assumption) ?_
          · intro w9 hSw
            try dsimp only at hSw
            go_simp
          try simp only [Act.put, List.getElem_toArray, List.getElem_cons_succ, List.getElem_cons_zero, List.setIfInBounds_toArray, List.set_cons_zero, List.set_cons_succ]
          refine wpAnyH_done (by kernel_rfl) ?_ _
          go_wp2_with fail
          refine (must_false _).mono ?_
          rintro e y ⟨rfl, rfl⟩
          go_wp2_with fail
          exact ⟨rfl, rfl, hHeld.1⟩
        | some R =>
          have H3' : Hid (∀ w, Tab64 w → Calls Tryd.prog 68 #[.agg #[.int .i64 52, .int .i64 1023], .int .u64 (n : Int), .int .i64 ee] w fun r w' => r = .returned (.tuple #[.int .u64 (R : Int), .bool true]) ∧ Below w.heap.size w w') := H3
          clear H3
          show Calls _ _ _ _ fun e w' => e = .returned (.int .u64 (R : Int)) ∧ Below w.heap.size w w'
          go_enter Tryd.func61, Tryd.ntmps61
          go_wp2_with fail
          refine (HC.out _).mono ?_
          rintro e w1 ⟨rfl, hb0⟩
          obtain ⟨c0, c1, hb⟩ := BX.out w1 hb0
          clear hb0 BX
          go_wp2_with fail
          refine (must_true _).mono ?_
          rintro e w1 ⟨rfl, rfl⟩
          go_wp2_with fail
          refine (H1.out _).mono ?_
          rintro e w1 ⟨rfl, rfl⟩
          go_wp2_with fail
          refine wp_region_held_drew (S := fun x => Below w.heap.size w x ∧ x.cell? ⟨w.heap.size, 0, none⟩ = some (.int .i64 52) ∧ x.cell? ⟨w.heap.size, 1, none⟩ = some (.int .i64 1023)) (by kernel_rfl) ⟨Below.drew hb, c0, c1⟩ (fun hHeld => ?_)
          refine wpAnyH_take (i := 0) (v := (.agg #[.int .i64 52, .int .i64 1023])) rfl (by kernel_rfl) (by kernel_rfl) (by kernel_rfl) (fun _ _ _ h => h) (Or.inl ⟨by rfl, ?_⟩) (by assumption) ?_
          · intro w9 hSw
            try dsimp only at hSw
            go_simp
          try simp only [Act.put, List.getElem_toArray, List.getElem_cons_succ, List.getElem_cons_zero, List.setIfInBounds_toArray, List.set_cons_zero, List.set_cons_succ]
          refine wpAnyH_take (i := 1) (v := (.string sm)) rfl (by kernel_rfl) (by kernel_rfl) (by kernel_rfl) (fun _ _ _ h => h) (Or.inl ⟨by rfl, ?_⟩) (by assumption) ?_
          · intro w9 hSw
            try dsimp only at hSw
            go_simp
          try simp only [Act.put, List.getElem_toArray, List.getElem_cons_succ, List.getElem_cons_zero, List.setIfInBounds_toArray, List.set_cons_zero, List.set_cons_succ]
          refine wpAnyH_take (i := 3) (v := (.int .i64 ee)) rfl (by kernel_rfl) (by kernel_rfl) (by kernel_rfl) (fun _ _ _ h => h) (Or.inl ⟨by rfl, ?_⟩) (by assumption) ?_
          · intro w9 hSw
            try dsimp only at hSw
            go_simp
          try simp only [Act.put, List.getElem_toArray, List.getElem_cons_succ, List.getElem_cons_zero, List.setIfInBounds_toArray, List.set_cons_zero, List.set_cons_succ]
          refine wpAnyH_ready (rs := [2]) (by kernel_rfl) (by simp) ?_
          refine AllReadyH.cons rfl (fun K' hK => ?_) AllReadyH.nil
          rw [if_pos (by rfl)]
          simp only [List.getElem_toArray, List.getElem_cons_succ, List.getElem_cons_zero]
          go_wp2_with fail
          refine (H2.out _).mono ?_
          rintro e z ⟨rfl, rfl⟩
          try go_wp2_with fail
          refine hK.out _ _ hHeld (fun hHeld => ?_)
          clear hK K'
          try simp only [Act.put, List.getElem_toArray, List.getElem_cons_succ, List.getElem_cons_zero, List.setIfInBounds_toArray, List.set_cons_zero, List.set_cons_succ]
          refine wpAnyH_ready (rs := [4]) (by kernel_rfl) (by simp) ?_
          refine AllReadyH.cons rfl (fun K' hK => ?_) AllReadyH.nil
          rw [if_pos (by rfl)]
          simp only [List.getElem_toArray, List.getElem_cons_succ, List.getElem_cons_zero]
          go_wp2_with fail
          refine (H3'.out _ (hT.below (And.left hHeld) old)).mono ?_
          rintro e z2 ⟨rfl, hbx⟩
          try go_wp2_with fail
          have hHeld : Below w.heap.size w z2 ∧ z2.cell? ⟨w.heap.size, 0, none⟩ = some (.int .i64 52) ∧ z2.cell? ⟨w.heap.size, 1, none⟩ = some (.int .i64 1023) := ⟨Below.andThen hHeld.1 hbx, (hbx.cell (p := ⟨w.heap.size, 0, none⟩) (block_lt_of_cell hHeld.2.1)).trans hHeld.2.1, (hbx.cell (p := ⟨w.heap.size, 1, none⟩) (block_lt_of_cell hHeld.2.2)).trans hHeld.2.2⟩
          refine hK.out _ _ hHeld (fun hHeld => ?_)
          clear hK K'
          try simp only [Act.put, List.getElem_toArray, List.getElem_cons_succ, List.getElem_cons_zero, List.setIfInBounds_toArray, List.set_cons_zero, List.set_cons_succ]
          refine wpAnyH_take (i := 5) (v := (.tuple #[.int .u64 (R : Int), .bool true])) rfl (by kernel_rfl) (by kernel_rfl) (by kernel_rfl) (fun _ _ _ h => h) (Or.inl ⟨by rfl, ?_⟩) (by assumption) ?_
          · intro w9 hSw
            try dsimp only at hSw
            go_simp
          try simp only [Act.put, List.getElem_toArray, List.getElem_cons_succ, List.getElem_cons_zero, List.setIfInBounds_toArray, List.set_cons_zero, List.set_cons_succ]
          refine wpAnyH_take (i := 6) (v := (.int .u64 (R : Int))) rfl (by kernel_rfl) (by kernel_rfl) (by kernel_rfl) (fun _ _ _ h => h) (Or.inl ⟨by rfl, ?_⟩) (by assumption) ?_
          · intro w9 hSw
            try dsimp only at hSw
            go_simp
          try simp only [Act.put, List.getElem_toArray, List.getElem_cons_succ, List.getElem_cons_zero, List.setIfInBounds_toArray, List.set_cons_zero, List.set_cons_succ]
          refine wpAnyH_take (i := 7) (v := (.bool true)) rfl (by kernel_rfl) (by kernel_rfl) (by kernel_rfl) (fun _ _ _ h => h) (Or.inl ⟨by rfl, ?_⟩) (by assumption) ?_
          · intro w9 hSw
            try dsimp only at hSw
            go_simp
          try simp only [Act.put, List.getElem_toArray, List.getElem_cons_succ, List.getElem_cons_zero, List.setIfInBounds_toArray, List.set_cons_zero, List.set_cons_succ]
          refine wpAnyH_take (i := 8) (v := (.int .u64 (R : Int))) rfl (by kernel_rfl) (by kernel_rfl) (by kernel_rfl) (fun _ _ _ h => h) (Or.inl ⟨by rfl, ?_⟩) (by assumption) ?_
          · intro w9 hSw
            try dsimp only at hSw
            go_simp
          try simp only [Act.put, List.getElem_toArray, List.getElem_cons_succ, List.getElem_cons_zero, List.setIfInBounds_toArray, List.set_cons_zero, List.set_cons_succ]
          refine wpAnyH_take (i := 9) (v := (.bool true)) rfl (by kernel_rfl) (by kernel_rfl) (by kernel_rfl) (fun _ _ _ h => h) (Or.inl ⟨by rfl, ?_⟩) (by assumption) ?_
          · intro w9 hSw
            try dsimp only at hSw
            go_simp
          try simp only [Act.put, List.getElem_toArray, List.getElem_cons_succ, List.getElem_cons_zero, List.setIfInBounds_toArray, List.set_cons_zero, List.set_cons_succ]
          refine wpAnyH_done (by kernel_rfl) ?_ _
          go_wp2_with fail
          refine (must_true _).mono ?_
          rintro e y ⟨rfl, rfl⟩
          go_wp2_with fail
          go_ret
          exact ⟨rfl, hHeld.1⟩
#print axioms sizeRd64_any

theorem tog32_any (m : Nat) (e : Int) (w : World) (hm : m < 18446744073709551616) (he0 : -10000 ≤ e) (he1 : e ≤ 10000) (hT : Tab64 w) :
    Calls Tryd.prog 68 #[.agg #[.int .i64 23, .int .i64 127], .int .u64 (m : Int), .int .i64 e] w fun r w' => r = .returned (endT (togV 23 127 m e)) ∧ Below w.heap.size w w' := by
  by_cases h0 : m = 0
  · subst h0
    exact together0_32 e w
  obtain ⟨M, z, L, hg, hz, hmz, hodd, hL1, hL64, hM1, hM2, hM64⟩ := ctz_split m h0 hm
  have hV : togV 23 127 m e = togM 23 127 (e + (z : Int)) M L := by
    unfold togV
    rw [if_neg h0, hg.hz, hg.hM, hg.hL]
  rw [hV]
  have hg' : Tog32 m e M z L := ⟨hg.m0, hg.m1, he0, he1, hg.hz, hg.hM, hg.hL⟩
  unfold togM
  by_cases c1 : e + (z : Int) < 1 - 127 - (23 : Nat) ∨ (127 : Int) < e + (z : Int) + L - 1 ∨ 23 + 1 < L
  · rw [if_pos c1]
    exact togetherBad32 m e M z L _ w hg' hT rfl hz hL64 hM64 (by omega)
  rw [if_neg c1]
  obtain ⟨k, hk⟩ : ∃ k : Nat, e + (z : Int) = (k : Int) - 149 := ⟨(e + (z : Int) + 149).toNat, by omega⟩
  by_cases c2 : e + (z : Int) + L - 1 < 1 - 127
  · rw [if_pos c2]
    have e1 : (e + (z : Int) - (1 - 127 - (23 : Nat))).toNat = k := by omega
    rw [e1]
    have hs := (tog_small 23 k L M hM2 (by omega)).1
    exact togetherLow32 m e M z L k w hg' hT hk hz (by omega) (by omega) hM64 hs
  · rw [if_neg c2]
    have e1 : (e + (z : Int) + L - 1 + 127).toNat = k + L - 23 := by omega
    rw [e1]
    obtain ⟨t1, t2, t3⟩ := tog_big 23 k L M hM1 hM2 hL1 (by omega) (by omega)
    exact togetherHigh32 m e M z L k w hg' hT hk hz (by omega) (by omega) (by omega) hM64 ⟨t1, t2⟩

set_option linter.unusedSimpArgs false in
set_option maxHeartbeats 4000000 in
set_option maxRecDepth 100000 in
theorem sizeRd32_any (l : List UInt8) (w : World) (hl : l.length ≤ 1000000) (hT : Tab64 w) :
    Calls Tryd.prog 61 #[.string (str l), .agg #[.int .i64 23, .int .i64 127]] w fun e w' => e = endU (szV 23 127 2139095040 l) ∧ Below w.heap.size w w' := by
  have hc := fun w => cutC_any 112 l w hl
  unfold cutT at hc
  obtain ⟨sl, HSL, hsl, _, _⟩ := str_facts l
  rw [HSL.out] at hc ⊢
  by_cases a0 : l = [105, 110, 102]
  · have HE : Hid (endU (szV 23 127 2139095040 l) = .returned (.int .u64 2139095040)) := by show _ = _; unfold szV; rw [if_pos a0]; rfl
    rw [HE.out]
    have b0 : (l == [105, 110, 102]) = true := by simp [a0]
    clear hc HE
    go_enter Tryd.func61, Tryd.ntmps61
    go_wp2_with fail
    refine (infinity32 _).mono ?_
    rintro e w1 ⟨rfl, HW⟩
    have hb : Below w.heap.size w w1 := by rw [← HW]; exact Below.al (Below.al (Below.refl _ _) _) _
    clear HW
    go_wp2_with fail
    go_ret
    exact ⟨rfl, hb⟩
  have b0 : (l == [105, 110, 102]) = false := by simp [a0]
  have SZ : Hid (szV 23 127 2139095040 l = (cutU 112 l).bind fun p => (sgnV 9999 9999 p.2).bind fun q => (decV 18446744073709551615 p.1).bind fun m => togV 23 127 m (toI q)) := by show _ = _; unfold szV; rw [if_neg a0]
  rw [SZ.out]
  clear SZ
  cases hq : cutU 112 l with
  | none =>
    rw [hq] at hc
    have HC : Hid (∀ w : World, Calls Tryd.prog 63 #[.string sl, .string ⟨#[112]⟩] w fun e w' => e = .returned (.tuple #[.string sl, .string ⟨#[]⟩, .bool false]) ∧ Below w.heap.size w w') := hc
    show Calls _ _ _ _ fun e w' => e = .panicked bad ∧ Below w.heap.size w w'
    clear hc hq
    go_enter Tryd.func61, Tryd.ntmps61
    go_wp2_with fail
    refine (HC.out _).mono ?_
    rintro e w1 ⟨rfl, hb⟩
    have hb : Below w.heap.size w w1 := Below.andThen (Below.al (Below.refl _ _) _) hb
    go_wp2_with fail
    refine (must_false _).mono ?_
    rintro e w1 ⟨rfl, rfl⟩
    go_wp2_with fail
    exact ⟨rfl, rfl, hb⟩
  | some p =>
    obtain ⟨m, x⟩ := p
    rw [hq] at hc
    have he := cutU_eq 112 l _ hq
    have hlen : l.length = m.length + 1 + x.length := by rw [he]; simp; omega
    have h1 := fun w => signedRd_any x 9999 9999 w (by decide) (by decide) (by omega)
    have h2 := fun w => decimal_any m 18446744073709551615 w (by decide) (by omega)
    have BD := fun q h => sgnV_bd x q h
    have DM : Hid (∀ n, decV 18446744073709551615 m = some n → n < 18446744073709551616) := fun n hn => by
      unfold decV at hn
      split at hn
      · have := decFold_le 18446744073709551615 _ 0 n (Nat.zero_le _) hn; omega
      · simp at hn
    show Calls _ _ _ _ fun e w' => e = endU ((sgnV 9999 9999 x).bind fun q => (decV 18446744073709551615 m).bind fun m => togV 23 127 m (toI q)) ∧ Below w.heap.size w w'
    dsimp only at hc
    clear he hlen hq a0
    generalize str m = sm at *
    generalize str x = sx at *
    have HC : Hid (∀ w : World, Calls Tryd.prog 63 #[.string sl, .string ⟨#[112]⟩] w fun e w' => e = .returned (.tuple #[.string sm, .string sx, .bool true]) ∧ Below w.heap.size w w') := hc
    clear hc
    generalize sgnV 9999 9999 x = v1 at *
    generalize decV 18446744073709551615 m = v2 at *
    cases v1 with
    | none =>
      have H1 : Hid (∀ w : World, Calls Tryd.prog 34 #[.string sx, .int .u64 9999, .int .u64 9999] w fun e w' => e = .panicked bad ∧ w' = w) := h1
      clear h1 h2 BD
      show Calls _ _ _ _ fun e w' => e = .panicked bad ∧ Below w.heap.size w w'
      go_enter Tryd.func61, Tryd.ntmps61
      go_wp2_with fail
      refine (HC.out _).mono ?_
      rintro e w1 ⟨rfl, hb⟩
      have hb : Below w.heap.size w w1 := Below.andThen (Below.al (Below.refl _ _) _) hb
      go_wp2_with fail
      refine (must_true _).mono ?_
      rintro e w1 ⟨rfl, rfl⟩
      go_wp2_with fail
      refine (H1.out _).mono ?_
      rintro e w1 ⟨rfl, rfl⟩
      go_wp2_with fail
      exact ⟨rfl, rfl, hb⟩
    | some q =>
      have H1 : Hid (∀ w : World, Calls Tryd.prog 34 #[.string sx, .int .u64 9999, .int .u64 9999] w fun e w' => e = .returned (.int .u64 (q : Int)) ∧ w' = w) := h1
      obtain ⟨q0, q1, q2⟩ := BD q rfl
      have wq := toI_wrap q q0
      show Calls _ _ _ _ fun e w' => e = endU (v2.bind fun m => togV 23 127 m (toI q)) ∧ Below w.heap.size w w'
      generalize toI q = ee at *
      clear h1 BD
      have BX : Hid (∀ w1 : World, Below (w.alloc (.cells #[.int .i64 23, .int .i64 127] 92)).heap.size (w.alloc (.cells #[.int .i64 23, .int .i64 127] 92)) w1 → w1.cell? ⟨w.heap.size, 0, none⟩ = some (.int .i64 23) ∧ w1.cell? ⟨w.heap.size, 1, none⟩ = some (.int .i64 127) ∧ Below w.heap.size w w1) := fun w1 hb =>
        ⟨(hb.cell (by simp <;> omega)).trans (by simp [go_sem]), (hb.cell (by simp <;> omega)).trans (by simp [go_sem]), Below.andThen (Below.al (Below.refl _ _) _) hb⟩
      cases v2 with
      | none =>
        have H2 : Hid (∀ w : World, Calls Tryd.prog 58 #[.string sm, .int .u64 18446744073709551615] w fun e w' => e = .panicked bad ∧ w' = w) := h2
        clear h2
        show Calls _ _ _ _ fun e w' => e = .panicked bad ∧ Below w.heap.size w w'
        go_enter Tryd.func61, Tryd.ntmps61
        go_wp2_with fail
        refine (HC.out _).mono ?_
        rintro e w1 ⟨rfl, hb0⟩
        obtain ⟨c0, c1, hb⟩ := BX.out w1 hb0
        clear hb0 BX
        go_wp2_with fail
        refine (must_true _).mono ?_
        rintro e w1 ⟨rfl, rfl⟩
        go_wp2_with fail
        refine (H1.out _).mono ?_
        rintro e w1 ⟨rfl, rfl⟩
        go_wp2_with fail
        refine wp_region_held_drew (S := fun x => Below w.heap.size w x ∧ x.cell? ⟨w.heap.size, 0, none⟩ = some (.int .i64 23) ∧ x.cell? ⟨w.heap.size, 1, none⟩ = some (.int .i64 127)) (by kernel_rfl) ⟨Below.drew hb, c0, c1⟩ (fun hHeld => ?_)
        refine wpAnyH_take (i := 0) (v := (.agg #[.int .i64 23, .int .i64 127])) rfl (by kernel_rfl) (by kernel_rfl) (by kernel_rfl) (fun _ _ _ h => h) (Or.inl ⟨by rfl, ?_⟩) (by assumption) ?_
        · intro w9 hSw
          try dsimp only at hSw
          go_simp
        try simp only [Act.put, List.getElem_toArray, List.getElem_cons_succ, List.getElem_cons_zero, List.setIfInBounds_toArray, List.set_cons_zero, List.set_cons_succ]
        refine wpAnyH_take (i := 1) (v := (.string sm)) rfl (by kernel_rfl) (by kernel_rfl) (by kernel_rfl) (fun _ _ _ h => h) (Or.inl ⟨by rfl, ?_⟩) (by assumption) ?_
        · intro w9 hSw
          try dsimp only at hSw
          go_simp
        try simp only [Act.put, List.getElem_toArray, List.getElem_cons_succ, List.getElem_cons_zero, List.setIfInBounds_toArray, List.set_cons_zero, List.set_cons_succ]
        refine wpAnyH_take (i := 3) (v := (.int .i64 ee)) rfl (by kernel_rfl) (by kernel_rfl) (by kernel_rfl) (fun _ _ _ h => h) (Or.inl ⟨by rfl, ?_⟩) (by assumption) ?_
        · intro w9 hSw
          try dsimp only at hSw
          go_simp
        try simp only [Act.put, List.getElem_toArray, List.getElem_cons_succ, List.getElem_cons_zero, List.setIfInBounds_toArray, List.set_cons_zero, List.set_cons_succ]
        refine wpAnyH_ready (rs := [2]) (by kernel_rfl) (by simp) ?_
        refine AllReadyH.cons rfl (fun K' hK => ?_) AllReadyH.nil
        rw [if_pos (by rfl)]
        simp only [List.getElem_toArray, List.getElem_cons_succ, List.getElem_cons_zero]
        go_wp2_with fail
        refine (H2.out _).mono ?_
        rintro e z ⟨rfl, rfl⟩
        go_wp2_with fail
        exact ⟨rfl, rfl, hHeld.1⟩
      | some n =>
        have H2 : Hid (∀ w : World, Calls Tryd.prog 58 #[.string sm, .int .u64 18446744073709551615] w fun e w' => e = .returned (.int .u64 (n : Int)) ∧ w' = w) := h2
        have n1 := DM.out n rfl
        have H3 := fun w hT => tog32_any n ee w n1 (by omega) (by omega) hT
        show Calls _ _ _ _ fun e w' => e = endU (togV 23 127 n ee) ∧ Below w.heap.size w w'
        generalize togV 23 127 n ee = v3 at *
        have old := hT.old
        clear h2 DM n1
        cases v3 with
        | none =>
          have H3' : Hid (∀ w, Tab64 w → Calls Tryd.prog 68 #[.agg #[.int .i64 23, .int .i64 127], .int .u64 (n : Int), .int .i64 ee] w fun r w' => r = .returned (.tuple #[.int .u64 0, .bool false]) ∧ Below w.heap.size w w') := H3
          clear H3
          show Calls _ _ _ _ fun e w' => e = .panicked bad ∧ Below w.heap.size w w'
          go_enter Tryd.func61, Tryd.ntmps61
          go_wp2_with fail
          refine (HC.out _).mono ?_
          rintro e w1 ⟨rfl, hb0⟩
          obtain ⟨c0, c1, hb⟩ := BX.out w1 hb0
          clear hb0 BX
          go_wp2_with fail
          refine (must_true _).mono ?_
          rintro e w1 ⟨rfl, rfl⟩
          go_wp2_with fail
          refine (H1.out _).mono ?_
          rintro e w1 ⟨rfl, rfl⟩
          go_wp2_with fail
          refine wp_region_held_drew (S := fun x => Below w.heap.size w x ∧ x.cell? ⟨w.heap.size, 0, none⟩ = some (.int .i64 23) ∧ x.cell? ⟨w.heap.size, 1, none⟩ = some (.int .i64 127)) (by kernel_rfl) ⟨Below.drew hb, c0, c1⟩ (fun hHeld => ?_)
          refine wpAnyH_take (i := 0) (v := (.agg #[.int .i64 23, .int .i64 127])) rfl (by kernel_rfl) (by kernel_rfl) (by kernel_rfl) (fun _ _ _ h => h) (Or.inl ⟨by rfl, ?_⟩) (by assumption) ?_
          · intro w9 hSw
            try dsimp only at hSw
            go_simp
          try simp only [Act.put, List.getElem_toArray, List.getElem_cons_succ, List.getElem_cons_zero, List.setIfInBounds_toArray, List.set_cons_zero, List.set_cons_succ]
          refine wpAnyH_take (i := 1) (v := (.string sm)) rfl (by kernel_rfl) (by kernel_rfl) (by kernel_rfl) (fun _ _ _ h => h) (Or.inl ⟨by rfl, ?_⟩) (by assumption) ?_
          · intro w9 hSw
            try dsimp only at hSw
            go_simp
          try simp only [Act.put, List.getElem_toArray, List.getElem_cons_succ, List.getElem_cons_zero, List.setIfInBounds_toArray, List.set_cons_zero, List.set_cons_succ]
          refine wpAnyH_take (i := 3) (v := (.int .i64 ee)) rfl (by kernel_rfl) (by kernel_rfl) (by kernel_rfl) (fun _ _ _ h => h) (Or.inl ⟨by rfl, ?_⟩) (by assumption) ?_
          · intro w9 hSw
            try dsimp only at hSw
            go_simp
          try simp only [Act.put, List.getElem_toArray, List.getElem_cons_succ, List.getElem_cons_zero, List.setIfInBounds_toArray, List.set_cons_zero, List.set_cons_succ]
          refine wpAnyH_ready (rs := [2]) (by kernel_rfl) (by simp) ?_
          refine AllReadyH.cons rfl (fun K' hK => ?_) AllReadyH.nil
          rw [if_pos (by rfl)]
          simp only [List.getElem_toArray, List.getElem_cons_succ, List.getElem_cons_zero]
          go_wp2_with fail
          refine (H2.out _).mono ?_
          rintro e z ⟨rfl, rfl⟩
          try go_wp2_with fail
          refine hK.out _ _ hHeld (fun hHeld => ?_)
          clear hK K'
          try simp only [Act.put, List.getElem_toArray, List.getElem_cons_succ, List.getElem_cons_zero, List.setIfInBounds_toArray, List.set_cons_zero, List.set_cons_succ]
          refine wpAnyH_ready (rs := [4]) (by kernel_rfl) (by simp) ?_
          refine AllReadyH.cons rfl (fun K' hK => ?_) AllReadyH.nil
          rw [if_pos (by rfl)]
          simp only [List.getElem_toArray, List.getElem_cons_succ, List.getElem_cons_zero]
          go_wp2_with fail
          refine (H3'.out _ (hT.below (And.left hHeld) old)).mono ?_
          rintro e z2 ⟨rfl, hbx⟩
          try go_wp2_with fail
          have hHeld : Below w.heap.size w z2 ∧ z2.cell? ⟨w.heap.size, 0, none⟩ = some (.int .i64 23) ∧ z2.cell? ⟨w.heap.size, 1, none⟩ = some (.int .i64 127) := ⟨Below.andThen hHeld.1 hbx, (hbx.cell (p := ⟨w.heap.size, 0, none⟩) (block_lt_of_cell hHeld.2.1)).trans hHeld.2.1, (hbx.cell (p := ⟨w.heap.size, 1, none⟩) (block_lt_of_cell hHeld.2.2)).trans hHeld.2.2⟩
          refine hK.out _ _ hHeld (fun hHeld => ?_)
          clear hK K'
          try simp only [Act.put, List.getElem_toArray, List.getElem_cons_succ, List.getElem_cons_zero, List.setIfInBounds_toArray, List.set_cons_zero, List.set_cons_succ]
          refine wpAnyH_take (i := 5) (v := (.tuple #[.int .u64 0, .bool false])) rfl (by kernel_rfl) (by kernel_rfl) (by kernel_rfl) (fun _ _ _ h => h) (Or.inl ⟨by rfl, ?_⟩) (by assumption) ?_
          · intro w9 hSw
            try dsimp only at hSw
            go_simp
          try simp only [Act.put, List.getElem_toArray, List.getElem_cons_succ, List.getElem_cons_zero, List.setIfInBounds_toArray, List.set_cons_zero, List.set_cons_succ]
          refine wpAnyH_take (i := 6) (v := (.int .u64 0)) rfl (by kernel_rfl) (by kernel_rfl) (by kernel_rfl) (fun _ _ _ h => h) (Or.inl ⟨by rfl, ?_⟩) (by assumption) ?_
          · intro w9 hSw
            try dsimp only at hSw
            go_simp
          try simp only [Act.put, List.getElem_toArray, List.getElem_cons_succ, List.getElem_cons_zero, List.setIfInBounds_toArray, List.set_cons_zero, List.set_cons_succ]
          refine wpAnyH_take (i := 7) (v := (.bool false)) rfl (by kernel_rfl) (by kernel_rfl) (by kernel_rfl) (fun _ _ _ h => h) (Or.inl ⟨by rfl, ?_⟩) (by assumption) ?_
          · intro w9 hSw
            try dsimp only at hSw
            go_simp
          try simp only [Act.put, List.getElem_toArray, List.getElem_cons_succ, List.getElem_cons_zero, List.setIfInBounds_toArray, List.set_cons_zero, List.set_cons_succ]
          refine wpAnyH_take (i := 8) (v := (.int .u64 0)) rfl (by kernel_rfl) (by kernel_rfl) (by kernel_rfl) (fun _ _ _ h => h) (Or.inl ⟨by rfl, ?_⟩) (by assumption) ?_
          · intro w9 hSw
            try dsimp only at hSw
            go_simp
          try simp only [Act.put, List.getElem_toArray, List.getElem_cons_succ, List.getElem_cons_zero, List.setIfInBounds_toArray, List.set_cons_zero, List.set_cons_succ]
          refine wpAnyH_take (i := 9) (v := (.bool false)) rfl (by kernel_rfl) (by kernel_rfl) (by kernel_rfl) (fun _ _ _ h => h) (Or.inl ⟨by rfl, ?_⟩) (by assumption) ?_
          · intro w9 hSw
            try dsimp only at hSw
            go_simp
          try simp only [Act.put, List.getElem_toArray, List.getElem_cons_succ, List.getElem_cons_zero, List.setIfInBounds_toArray, List.set_cons_zero, List.set_cons_succ]
          refine wpAnyH_done (by kernel_rfl) ?_ _
          go_wp2_with fail
          refine (must_false _).mono ?_
          rintro e y ⟨rfl, rfl⟩
          go_wp2_with fail
          exact ⟨rfl, rfl, hHeld.1⟩
        | some R =>
          have H3' : Hid (∀ w, Tab64 w → Calls Tryd.prog 68 #[.agg #[.int .i64 23, .int .i64 127], .int .u64 (n : Int), .int .i64 ee] w fun r w' => r = .returned (.tuple #[.int .u64 (R : Int), .bool true]) ∧ Below w.heap.size w w') := H3
          clear H3
          show Calls _ _ _ _ fun e w' => e = .returned (.int .u64 (R : Int)) ∧ Below w.heap.size w w'
          go_enter Tryd.func61, Tryd.ntmps61
          go_wp2_with fail
          refine (HC.out _).mono ?_
          rintro e w1 ⟨rfl, hb0⟩
          obtain ⟨c0, c1, hb⟩ := BX.out w1 hb0
          clear hb0 BX
          go_wp2_with fail
          refine (must_true _).mono ?_
          rintro e w1 ⟨rfl, rfl⟩
          go_wp2_with fail
          refine (H1.out _).mono ?_
          rintro e w1 ⟨rfl, rfl⟩
          go_wp2_with fail
          refine wp_region_held_drew (S := fun x => Below w.heap.size w x ∧ x.cell? ⟨w.heap.size, 0, none⟩ = some (.int .i64 23) ∧ x.cell? ⟨w.heap.size, 1, none⟩ = some (.int .i64 127)) (by kernel_rfl) ⟨Below.drew hb, c0, c1⟩ (fun hHeld => ?_)
          refine wpAnyH_take (i := 0) (v := (.agg #[.int .i64 23, .int .i64 127])) rfl (by kernel_rfl) (by kernel_rfl) (by kernel_rfl) (fun _ _ _ h => h) (Or.inl ⟨by rfl, ?_⟩) (by assumption) ?_
          · intro w9 hSw
            try dsimp only at hSw
            go_simp
          try simp only [Act.put, List.getElem_toArray, List.getElem_cons_succ, List.getElem_cons_zero, List.setIfInBounds_toArray, List.set_cons_zero, List.set_cons_succ]
          refine wpAnyH_take (i := 1) (v := (.string sm)) rfl (by kernel_rfl) (by kernel_rfl) (by kernel_rfl) (fun _ _ _ h => h) (Or.inl ⟨by rfl, ?_⟩) (by assumption) ?_
          · intro w9 hSw
            try dsimp only at hSw
            go_simp
          try simp only [Act.put, List.getElem_toArray, List.getElem_cons_succ, List.getElem_cons_zero, List.setIfInBounds_toArray, List.set_cons_zero, List.set_cons_succ]
          refine wpAnyH_take (i := 3) (v := (.int .i64 ee)) rfl (by kernel_rfl) (by kernel_rfl) (by kernel_rfl) (fun _ _ _ h => h) (Or.inl ⟨by rfl, ?_⟩) (by assumption) ?_
          · intro w9 hSw
            try dsimp only at hSw
            go_simp
          try simp only [Act.put, List.getElem_toArray, List.getElem_cons_succ, List.getElem_cons_zero, List.setIfInBounds_toArray, List.set_cons_zero, List.set_cons_succ]
          refine wpAnyH_ready (rs := [2]) (by kernel_rfl) (by simp) ?_
          refine AllReadyH.cons rfl (fun K' hK => ?_) AllReadyH.nil
          rw [if_pos (by rfl)]
          simp only [List.getElem_toArray, List.getElem_cons_succ, List.getElem_cons_zero]
          go_wp2_with fail
          refine (H2.out _).mono ?_
          rintro e z ⟨rfl, rfl⟩
          try go_wp2_with fail
          refine hK.out _ _ hHeld (fun hHeld => ?_)
          clear hK K'
          try simp only [Act.put, List.getElem_toArray, List.getElem_cons_succ, List.getElem_cons_zero, List.setIfInBounds_toArray, List.set_cons_zero, List.set_cons_succ]
          refine wpAnyH_ready (rs := [4]) (by kernel_rfl) (by simp) ?_
          refine AllReadyH.cons rfl (fun K' hK => ?_) AllReadyH.nil
          rw [if_pos (by rfl)]
          simp only [List.getElem_toArray, List.getElem_cons_succ, List.getElem_cons_zero]
          go_wp2_with fail
          refine (H3'.out _ (hT.below (And.left hHeld) old)).mono ?_
          rintro e z2 ⟨rfl, hbx⟩
          try go_wp2_with fail
          have hHeld : Below w.heap.size w z2 ∧ z2.cell? ⟨w.heap.size, 0, none⟩ = some (.int .i64 23) ∧ z2.cell? ⟨w.heap.size, 1, none⟩ = some (.int .i64 127) := ⟨Below.andThen hHeld.1 hbx, (hbx.cell (p := ⟨w.heap.size, 0, none⟩) (block_lt_of_cell hHeld.2.1)).trans hHeld.2.1, (hbx.cell (p := ⟨w.heap.size, 1, none⟩) (block_lt_of_cell hHeld.2.2)).trans hHeld.2.2⟩
          refine hK.out _ _ hHeld (fun hHeld => ?_)
          clear hK K'
          try simp only [Act.put, List.getElem_toArray, List.getElem_cons_succ, List.getElem_cons_zero, List.setIfInBounds_toArray, List.set_cons_zero, List.set_cons_succ]
          refine wpAnyH_take (i := 5) (v := (.tuple #[.int .u64 (R : Int), .bool true])) rfl (by kernel_rfl) (by kernel_rfl) (by kernel_rfl) (fun _ _ _ h => h) (Or.inl ⟨by rfl, ?_⟩) (by assumption) ?_
          · intro w9 hSw
            try dsimp only at hSw
            go_simp
          try simp only [Act.put, List.getElem_toArray, List.getElem_cons_succ, List.getElem_cons_zero, List.setIfInBounds_toArray, List.set_cons_zero, List.set_cons_succ]
          refine wpAnyH_take (i := 6) (v := (.int .u64 (R : Int))) rfl (by kernel_rfl) (by kernel_rfl) (by kernel_rfl) (fun _ _ _ h => h) (Or.inl ⟨by rfl, ?_⟩) (by assumption) ?_
          · intro w9 hSw
            try dsimp only at hSw
            go_simp
          try simp only [Act.put, List.getElem_toArray, List.getElem_cons_succ, List.getElem_cons_zero, List.setIfInBounds_toArray, List.set_cons_zero, List.set_cons_succ]
          refine wpAnyH_take (i := 7) (v := (.bool true)) rfl (by kernel_rfl) (by kernel_rfl) (by kernel_rfl) (fun _ _ _ h => h) (Or.inl ⟨by rfl, ?_⟩) (by assumption) ?_
          · intro w9 hSw
            try dsimp only at hSw
            go_simp
          try simp only [Act.put, List.getElem_toArray, List.getElem_cons_succ, List.getElem_cons_zero, List.setIfInBounds_toArray, List.set_cons_zero, List.set_cons_succ]
          refine wpAnyH_take (i := 8) (v := (.int .u64 (R : Int))) rfl (by kernel_rfl) (by kernel_rfl) (by kernel_rfl) (fun _ _ _ h => h) (Or.inl ⟨by rfl, ?_⟩) (by assumption) ?_
          · intro w9 hSw
            try dsimp only at hSw
            go_simp
          try simp only [Act.put, List.getElem_toArray, List.getElem_cons_succ, List.getElem_cons_zero, List.setIfInBounds_toArray, List.set_cons_zero, List.set_cons_succ]
          refine wpAnyH_take (i := 9) (v := (.bool true)) rfl (by kernel_rfl) (by kernel_rfl) (by kernel_rfl) (fun _ _ _ h => h) (Or.inl ⟨by rfl, ?_⟩) (by assumption) ?_
          · intro w9 hSw
            try dsimp only at hSw
            go_simp
          try simp only [Act.put, List.getElem_toArray, List.getElem_cons_succ, List.getElem_cons_zero, List.setIfInBounds_toArray, List.set_cons_zero, List.set_cons_succ]
          refine wpAnyH_done (by kernel_rfl) ?_ _
          go_wp2_with fail
          refine (must_true _).mono ?_
          rintro e y ⟨rfl, rfl⟩
          go_wp2_with fail
          go_ret
          exact ⟨rfl, hHeld.1⟩
#print axioms sizeRd32_any
end Go.Proofs.YtkfmmpolcjbnbaaDoor
