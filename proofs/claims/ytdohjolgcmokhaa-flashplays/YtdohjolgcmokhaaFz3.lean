/-
  The walk of the document's Write.
-/
import Derived.Test.YtdohjolgcmokhaaFz2
import Derived.BigQuiet
import Derived.Laws.BitsAllLaws
namespace Go.Proofs.Ytdohjolgcmokhaa
open Go.RowKit

theorem nat_rises (b a : Nat) (hb : b < 256) (ha : a < 256) (h : b &&& (255 - a) = 0) : b &&& a = b := by
  apply Nat.eq_of_testBit_eq
  intro i
  have h2 : (b &&& (255 - a)).testBit i = (0 : Nat).testBit i := by rw [h]
  rw [show 255 - a = 2 ^ 8 - (a + 1) from by omega, Nat.testBit_and, Nat.testBit_two_pow_sub_succ (by omega), Nat.zero_testBit] at h2
  rw [Nat.testBit_and]
  cases hb' : b.testBit i
  · rfl
  · have hi : i < 8 := by
      apply Classical.byContradiction
      intro hn
      have : b.testBit i = false := Nat.testBit_lt_two_pow (Nat.lt_of_lt_of_le hb (by have := Nat.pow_le_pow_right (n := 2) (by omega) (show 8 ≤ i by omega); omega))
      rw [this] at hb'; cases hb'
    rw [hb'] at h2
    simp [hi] at h2
    rw [h2]; rfl
theorem nat_falls2 (b a : Nat) (ha : a < 256) (h : b &&& a = b) : b &&& (255 - a) = 0 := by
  apply Nat.eq_of_testBit_eq
  intro i
  have h2 := congrArg (fun x => x.testBit i) h
  simp only [Nat.testBit_and] at h2
  rw [show 255 - a = 2 ^ 8 - (a + 1) from by omega, Nat.testBit_and, Nat.testBit_two_pow_sub_succ (by omega), Nat.zero_testBit]
  cases hb : b.testBit i <;> cases ha' : a.testBit i <;> simp_all
theorem an_iff {b a : Int} (hb : 0 ≤ b ∧ b < 256) (ha : 0 ≤ a ∧ a < 256) : An b a = b ↔ bits .andNot .u8 b a = 0 := by
  unfold An
  rw [u8_and b a hb.1 hb.2 ha.1 ha.2, u8_andNot b a hb.1 hb.2 ha.1 ha.2]
  constructor
  · intro h; rw [nat_falls2 b.toNat a.toNat (by omega) (by omega)]; rfl
  · intro h; rw [nat_rises b.toNat a.toNat (by omega) (by omega) (by omega)]; omega
/-- The bytes fall, one by one. -/
theorem fall_iff {bs ay : List Int} (b0 b1 b2 b3 a0 a1 a2 a3 : Int) (eb : bs = [b0, b1, b2, b3]) (ea : ay = [a0, a1, a2, a3]) (hb : Oct bs) (ha : Oct ay) :
    fallB a0 a1 a2 a3 b0 b1 b2 b3 = true ↔ ∀ j, j < 4 → bits .andNot .u8 (bs.getD j 0) (ay.getD j 0) = 0 := by
  subst eb ea
  unfold fallB
  rw [same4_iff, an_iff (hb _ (by simp)) (ha _ (by simp)), an_iff (hb _ (by simp)) (ha _ (by simp)), an_iff (hb _ (by simp)) (ha _ (by simp)), an_iff (hb _ (by simp)) (ha _ (by simp))]
  constructor
  · rintro ⟨h0, h1, h2, h3⟩ j hj
    have : j = 0 ∨ j = 1 ∨ j = 2 ∨ j = 3 := by omega
    rcases this with rfl | rfl | rfl | rfl
    · exact h0
    · exact h1
    · exact h2
    · exact h3
  · intro h
    exact ⟨h 0 (by omega), h 1 (by omega), h 2 (by omega), h 3 (by omega)⟩

set_option linter.unusedSimpArgs false in
set_option maxHeartbeats 4000000 in
set_option maxRecDepth 100000 in
theorem writeD_bad {w : World} {p B n cap : Nat} {s : FS} (h : IsD w p B n cap s) (k d b0 b1 b2 b3 : Int) (hb : refE s.of n k d ≠ 0) :
    Calls Try.prog 35 #[.pointer (some ⟨p, 0, none⟩), .int .i64 k, .int .i64 d, .agg (w4 b0 b1 b2 b3)] w fun e w' => e = .returned (.int .i64 (s.write n k d b0 b1 b2 b3).1) ∧ IsD w' p B n cap (s.write n k d b0 b1 b2 b3).2 ∧ Kp [p, B] w w' := by
  have hr := fun x => wrongD (h.next (Below.al (Below.refl _ _) x)) k d
  have e9 : s.write n k d b0 b1 b2 b3 = (refE s.of n k d, s) := by unfold FS.write; rw [if_pos hb]
  rw [e9]
  have gb : (refE s.of n k d != 0) = true := by simp [hb]
  have HH : Hid (∀ x, IsD (w.alloc x) p B n cap s) := fun x => h.next (Below.al (Below.refl _ _) x)
  generalize refE s.of n k d = E at *
  clear h hb e9
  go_enter Try.func35, Try.ntmps35
  go_wp2_with fail
  refine (hr _).mono ?_
  rintro e w2 ⟨rfl, rfl⟩
  clear hr
  go_wp2_with fail
  go_ret
  exact ⟨rfl, HH.out _, Kp.of (Below.al (Below.refl _ _) _)⟩

set_option linter.unusedSimpArgs false in
set_option maxHeartbeats 4000000 in
set_option maxRecDepth 100000 in
theorem writeD_ok {w : World} {p B n cap : Nat} {s : FS} (h : IsD w p B n cap s) (hs : s.Ok) (k d : Nat) (hk : k < n) (hd : d < 256) (ho : s.of = false) (b0 b1 b2 b3 : Int) (hw : Oct [b0, b1, b2, b3]) :
    Calls Try.prog 35 #[.pointer (some ⟨p, 0, none⟩), .int .i64 (k : Int), .int .i64 (d : Int), .agg (w4 b0 b1 b2 b3)] w fun e w' => e = .returned (.int .i64 (s.write n (k : Int) (d : Int) b0 b1 b2 b3).1) ∧ IsD w' p B n cap (s.write n (k : Int) (d : Int) b0 b1 b2 b3).2 ∧ Kp [p, B] w w' := by
  have hn2 := h.n2
  have hnp := h.ne
  have hlt := h.lt
  have h2 := fun x => h.next (Below.al (Below.refl _ _) x)
  have hr := fun x => wrongD (h2 x) k d
  rw [refE_ok ho n k d (by omega) (by omega) (by omega) (by omega)] at hr
  obtain ⟨K, hK⟩ : ∃ K, Hid (K = 256 * k) := ⟨_, rfl⟩
  obtain ⟨J, hJ⟩ : ∃ J, Hid (J = 256 * k + d) := ⟨_, rfl⟩
  obtain ⟨N, hN⟩ : ∃ N, Hid (N = 256 * n) := ⟨_, rfl⟩
  have wx : IntKind.i64.wrap (256 * (k : Int)) = (K : Int) := by rw [hK.out, IntKind.wrap_i64]; omega
  have wy : IntKind.i64.wrap ((K : Int) + (d : Int)) = (J : Int) := by rw [hJ.out, hK.out, IntKind.wrap_i64]; omega
  have gJ : (J : Int) < (N : Int) := by rw [hJ.out, hN.out]; omega
  have k0 : ∀ x, (w.alloc x).cell? ⟨p, 0, none⟩ = some (.slice (some ⟨B, 0, none⟩) N cap) := fun x => by rw [hN.out]; exact (h2 x).c0
  have LD := fun x => (h2 x).word k d J hJ.out hk hd
  obtain ⟨bs, hbs⟩ : ∃ bs, Hid (bs = [b0, b1, b2, b3]) := ⟨_, rfl⟩
  have oa : Oct s.cs := h.oct
  have DH : Hid (∀ z, Below w.heap.size w z → IsD z p B n cap s) := fun z hz => h.next hz
  have SD : Hid (∀ z, Below w.heap.size w z → Calls Try.prog 46 #[.pointer (some ⟨p, 0, none⟩)] z fun e w' => e = .returned (.int .i64 (s.step s.cs).1) ∧ IsD w' p B n cap (s.step s.cs).2 ∧ Kp [p] z w') := fun z hz => stepD (h.next hz) hs
  have PW : Hid (∀ (z : World) (R : FS), IsD z p B n cap R → ∃ w', (storeVar 32 ⟨B, J * 4, none⟩ (.agg #[.int .u8 b0, .int .u8 b1, .int .u8 b2, .int .u8 b3])).run Try.prog z = .ok () w' ∧ IsD w' p B n cap (R.at (put R.cs (k * 1024 + d * 4) [b0, b1, b2, b3])) ∧ Kp [B] z w') := fun z R hz => hz.putWord k d J hJ.out hk hd b0 b1 b2 b3 hw
  obtain ⟨q1, q2, q3⟩ := s.step_cs (put s.cs (k * 1024 + d * 4) [b0, b1, b2, b3]) s.cs
  have e9 : s.write n k d b0 b1 b2 b3 = if fallB (s.cs.getD (k * 1024 + d * 4) 0) (s.cs.getD (k * 1024 + d * 4 + 1) 0) (s.cs.getD (k * 1024 + d * 4 + 2) 0) (s.cs.getD (k * 1024 + d * 4 + 3) 0) b0 b1 b2 b3 = true then s.step (put s.cs (k * 1024 + d * 4) [b0, b1, b2, b3]) else (51, s) := by
    unfold FS.write
    rw [if_neg (by rw [refE_ok ho n k d (by omega) (by omega) (by omega) (by omega)]; simp)]
    rfl
  obtain ⟨ay, has⟩ : ∃ ay, Hid (ay = [s.cs.getD (k * 1024 + d * 4) 0, s.cs.getD (k * 1024 + d * 4 + 1) 0, s.cs.getD (k * 1024 + d * 4 + 2) 0, s.cs.getD (k * 1024 + d * 4 + 3) 0]) := ⟨_, rfl⟩
  have oas : Oct ay := by
    rw [has.out]
    intro x hx
    simp only [List.mem_cons, List.not_mem_nil, or_false] at hx
    rcases hx with rfl | rfl | rfl | rfl <;> exact oa.getD _
  have FI := fall_iff b0 b1 b2 b3 _ _ _ _ hbs.out has.out (by rw [hbs.out]; exact hw) oas
  unfold wdC at LD
  have A4 : Hid (ay.getD 0 0 = s.cs.getD (k * 1024 + d * 4) 0 ∧ ay.getD 1 0 = s.cs.getD (k * 1024 + d * 4 + 1) 0 ∧ ay.getD 2 0 = s.cs.getD (k * 1024 + d * 4 + 2) 0 ∧ ay.getD 3 0 = s.cs.getD (k * 1024 + d * 4 + 3) 0) := by rw [has.out]; exact ⟨rfl, rfl, rfl, rfl⟩
  have N51 : Hid (¬ (∀ j, j < 4 → bits .andNot .u8 (bs.getD j 0) (ay.getD j 0) = 0) → s.write n k d b0 b1 b2 b3 = (51, s)) := fun hn => by rw [e9, if_neg (fun e => hn (FI.1 e))]
  have NCU : Hid ((∀ j, j < 4 → bits .andNot .u8 (bs.getD j 0) (ay.getD j 0) = 0) → (s.step s.cs).1 ≠ 0 → s.write n k d b0 b1 b2 b3 = s.step s.cs) := fun hn hc => by rw [e9, if_pos (FI.2 hn)]; exact Prod.ext q1 (q3 hc)
  have NGO : Hid ((∀ j, j < 4 → bits .andNot .u8 (bs.getD j 0) (ay.getD j 0) = 0) → (s.step s.cs).1 = 0 → s.write n k d b0 b1 b2 b3 = (0, (s.step s.cs).2.at (put s.cs (k * 1024 + d * 4) [b0, b1, b2, b3])) ∧ (s.step s.cs).2.cs = s.cs) := fun hn hc => ⟨by rw [e9, if_pos (FI.2 hn)]; exact Prod.ext (q1.trans hc) (q2 hc).1, by rw [(q2 hc).2]; rfl⟩
  clear FI oas oa e9 q1 q2 q3 has h h2 hs hw ho
  generalize s.cs.getD (k * 1024 + d * 4) 0 = q0 at *
  generalize s.cs.getD (k * 1024 + d * 4 + 1) 0 = q1 at *
  generalize s.cs.getD (k * 1024 + d * 4 + 2) 0 = q2 at *
  generalize s.cs.getD (k * 1024 + d * 4 + 3) 0 = q3 at *
  generalize s.write n k d b0 b1 b2 b3 = RA at *
  have C1 : Hid (∀ z x, z = w.alloc (.cells #[.int .u8 b0, .int .u8 b1, .int .u8 b2, .int .u8 b3] 32) → x = z.alloc (.cells #[.int .u8 q0, .int .u8 q1, .int .u8 q2, .int .u8 q3] 32) → ∀ wr, Below x.heap.size x wr → Below w.heap.size w wr ∧ (∀ j, j < 4 → wr.cell? ⟨w.heap.size, j, none⟩ = some (.int .u8 (bs.getD j 0)) ∧ wr.cell? ⟨w.heap.size + 1, j, none⟩ = some (.int .u8 (ay.getD j 0)))) := fun z x hz hx wr hb => by
    subst hz
    subst hx
    refine ⟨Below.andThen (Below.al (Below.al (Below.refl _ _) _) _) hb, fun j hj => ?_⟩
    obtain ⟨u0, u1, u2, u3⟩ := A4.out
    have kz : Kp [] _ wr := Kp.of hb
    have : j = 0 ∨ j = 1 ∨ j = 2 ∨ j = 3 := by omega
    constructor
    · rw [hbs.out]
      rcases this with rfl | rfl | rfl | rfl <;> exact kz.cell (by simp [go_sem]) (by simp)
    · rcases this with rfl | rfl | rfl | rfl
      · rw [u0]; exact kz.cell (by simp [go_sem]) (by simp)
      · rw [u1]; exact kz.cell (by simp [go_sem]) (by simp)
      · rw [u2]; exact kz.cell (by simp [go_sem]) (by simp)
      · rw [u3]; exact kz.cell (by simp [go_sem]) (by simp)
  have ST := run_storeVar_new (P := Try.prog) (w.alloc (.cells #[.int .u8 b0, .int .u8 b1, .int .u8 b2, .int .u8 b3] 32)) 32 #[.int .u8 0, .int .u8 0, .int .u8 0, .int .u8 0] #[.int .u8 q0, .int .u8 q1, .int .u8 q2, .int .u8 q3] size32 rfl (by simp [Value.oneCell'])
  clear A4
  go_enter Try.func35, Try.ntmps35
  go_wp2_with fail
  refine (hr _).mono ?_
  rintro e w2 ⟨rfl, rfl⟩
  clear hr
  have LD2 := LD (.cells #[.int .u8 b0, .int .u8 b1, .int .u8 b2, .int .u8 b3] 32)
  have k02 := k0 (.cells #[.int .u8 b0, .int .u8 b1, .int .u8 b2, .int .u8 b3] 32)
  clear LD k0
  have CX := C1.out _ _ rfl rfl
  have CY : Hid _ := CX
  clear CX C1
  go_wp2_with (first | refine wpList_load_by rfl 32 (.tmp 27) rfl _ _ rfl LD2 ?_ | refine wpList_store_by rfl 32 (.tmp 10) (.tmp 28) rfl _ _ rfl rfl ST ?_)
  clear ST LD2 k02
  generalize hx : (w.alloc (.cells #[.int .u8 b0, .int .u8 b1, .int .u8 b2, .int .u8 b3] 32)).alloc (.cells #[.int .u8 q0, .int .u8 q1, .int .u8 q2, .int .u8 q3] 32) = x at *
  clear hx
  go_loopw [11] (fun u wr => ∃ i : Nat, i ≤ 4 ∧ u = .int .i64 i ∧ Below x.heap.size x wr ∧ ∀ j, j < i → bits .andNot .u8 (bs.getD j 0) (ay.getD j 0) = 0) (fun u _ => 4 - (intOf u).toNat)
  case atStart => exact ⟨0, by omega, rfl, Below.refl _ _, fun j hj => absurd hj (by omega)⟩
  case round =>
    obtain ⟨i, hi6, rfl, hb, hall⟩ := hrel
    have ALL : Hid (∀ j, j < i → bits .andNot .u8 (bs.getD j 0) (ay.getD j 0) = 0) := hall
    clear hall
    obtain ⟨bw, cc⟩ := CY.out wr hb
    have CC : Hid _ := cc
    clear cc
    by_cases hlt : i < 4
    · have g : (i : Int) < 4 := by omega
      obtain ⟨cb, ca⟩ := CC.out i hlt
      by_cases hz : bits .andNot .u8 (bs.getD i 0) (ay.getD i 0) = 0
      · have NXT : Hid (∀ j, j < i + 1 → bits .andNot .u8 (bs.getD j 0) (ay.getD j 0) = 0) := fun j hj => by
          rcases Nat.lt_succ_iff_lt_or_eq.1 hj with h | h
          · exact ALL.out j h
          · rw [h]; exact hz
        generalize bs.getD i 0 = xb at *
        generalize ay.getD i 0 = xa at *
        clear ALL CC CY N51 NCU NGO DH SD PW
        go_wp2_with fail
        go_quiet (fail)
        go_wp2_with fail
        exact ⟨⟨i + 1, by omega, by go_num, ⟨hb.os, hb.tape, hb.output, hb.size, hb.block⟩, NXT.out⟩, by simp [intOf]; omega⟩
      · have e51 : Hid _ := N51.out (fun hh => hz (hh i hlt))
        have DD : Hid (∀ m, IsD (wr.drewN m) p B n cap s ∧ Kp [p, B] w (wr.drewN m)) := fun m => by
          have b2 : Below w.heap.size w (wr.drewN m) := ⟨bw.os, bw.tape, bw.output, bw.size, bw.block⟩
          exact ⟨DH.out _ b2, Kp.of b2⟩
        generalize bs.getD i 0 = xb at *
        generalize ay.getD i 0 = xa at *
        have hz2 : (bits .andNot .u8 xb xa != 0) = true := by simp [hz]
        clear ALL CC CY N51 NCU NGO DH SD PW
        go_wp2_with fail
        go_quiet (fail)
        go_wp2_with fail
        go_ret
        rw [e51.out]
        exact ⟨rfl, DD.out _⟩
    · obtain rfl : i = 4 := by omega
      have CALL := SD.out wr bw
      have W4 : Hid (∀ z S, Kp S wr z → w.heap.size ∉ S → z.cell? ⟨w.heap.size, 0, none⟩ = some (.int .u8 b0) ∧ z.cell? ⟨w.heap.size, 1, none⟩ = some (.int .u8 b1) ∧ z.cell? ⟨w.heap.size, 2, none⟩ = some (.int .u8 b2) ∧ z.cell? ⟨w.heap.size, 3, none⟩ = some (.int .u8 b3)) := fun z S kz hS => by
        have c0 := (CC.out 0 (by omega)).1
        have c1 := (CC.out 1 (by omega)).1
        have c2 := (CC.out 2 (by omega)).1
        have c3 := (CC.out 3 (by omega)).1
        rw [hbs.out] at c0 c1 c2 c3
        exact ⟨kz.cell c0 hS, kz.cell c1 hS, kz.cell c2 hS, kz.cell c3 hS⟩
      by_cases hc : (s.step s.cs).1 = 0
      · obtain ⟨eg0, ecs0⟩ := NGO.out ALL.out hc
        have eg : Hid _ := eg0
        have ecs : Hid _ := ecs0
        clear eg0 ecs0
        rw [hc] at CALL
        generalize hR : (s.step s.cs).2 = R at *
        clear hR
        have np0 : p ≠ w.heap.size := by omega
        have np1 : B ≠ w.heap.size := by omega
        clear CC CY N51 NCU NGO DH SD ALL hc
        go_wp2_with fail
        refine CALL.mono ?_
        rintro e z ⟨rfl, Dz, kz⟩
        clear CALL
        have Dd : IsD z.drew p B n cap R := Dz.keep rfl rfl
        obtain ⟨w', hst, D2, K2⟩ := PW.out z.drew R Dd
        have kzd : Kp [p] wr z.drew := kz.drew
        obtain ⟨d0, d1, d2, d3⟩ := W4.out z.drew [p] kzd (by simp; omega)
        have KS0 : z.drew.cell? ⟨p, 0, none⟩ = some (.slice (some ⟨B, 0, none⟩) N cap) ∧ z.drew.cell? ⟨w.heap.size, 0, none⟩ = some (.int .u8 b0) ∧ z.drew.cell? ⟨w.heap.size, 1, none⟩ = some (.int .u8 b1) ∧ z.drew.cell? ⟨w.heap.size, 2, none⟩ = some (.int .u8 b2) ∧ z.drew.cell? ⟨w.heap.size, 3, none⟩ = some (.int .u8 b3) := ⟨by rw [hN.out]; exact Dd.c0, d0, d1, d2, d3⟩
        have kw2 : Kp [p, B] wr w' := (kzd.more (by simp)).trans (K2.more (by simp))
        obtain ⟨d0, d1, d2, d3⟩ := W4.out w' [p, B] kw2 (by simp; omega)
        have KS : w'.cell? ⟨p, 0, none⟩ = some (.slice (some ⟨B, 0, none⟩) N cap) ∧ w'.cell? ⟨w.heap.size, 0, none⟩ = some (.int .u8 b0) ∧ w'.cell? ⟨w.heap.size, 1, none⟩ = some (.int .u8 b1) ∧ w'.cell? ⟨w.heap.size, 2, none⟩ = some (.int .u8 b2) ∧ w'.cell? ⟨w.heap.size, 3, none⟩ = some (.int .u8 b3) := ⟨by rw [hN.out]; exact D2.c0, d0, d1, d2, d3⟩
        have RES : Hid (IsD w' p B n cap (R.at (put R.cs (k * 1024 + d * 4) [b0, b1, b2, b3])) ∧ Kp [p, B] w w') := ⟨D2, (Kp.of bw).trans kw2⟩
        rw [ecs.out] at RES
        clear d0 d1 d2 d3 D2 K2 Dd kzd Dz kz kw2 W4 PW
        go_wp2_with fail
        refine wp_region_held_drew (S := fun x => x.cell? ⟨p, 0, none⟩ = some (.slice (some ⟨B, 0, none⟩) N cap) ∧ x.cell? ⟨w.heap.size, 0, none⟩ = some (.int .u8 b0) ∧ x.cell? ⟨w.heap.size, 1, none⟩ = some (.int .u8 b1) ∧ x.cell? ⟨w.heap.size, 2, none⟩ = some (.int .u8 b2) ∧ x.cell? ⟨w.heap.size, 3, none⟩ = some (.int .u8 b3)) (by kernel_rfl) (KS0) (fun hHeld => ?_)
        refine wpAnyH_take (i := 0) (v := (.pointer (some ⟨p, 0, none⟩))) rfl (by kernel_rfl) (by kernel_rfl) (by kernel_rfl) (fun _ _ _ h => h) (Or.inl ⟨by rfl, ?_⟩) (by assumption) ?_
        · intro w9 hSw
          try dsimp only at hSw
          go_simp
          all_goals try decide
          all_goals try assumption
        try simp only [Act.put, List.getElem_toArray, List.getElem_cons_succ, List.getElem_cons_zero, List.setIfInBounds_toArray, List.set_cons_zero, List.set_cons_succ]
        refine wpAnyH_take (i := 1) (v := (.pointer (some ⟨p, 0, none⟩))) rfl (by kernel_rfl) (by kernel_rfl) (by kernel_rfl) (fun _ _ _ h => h) (Or.inl ⟨by rfl, ?_⟩) (by assumption) ?_
        · intro w9 hSw
          try dsimp only at hSw
          go_simp
          all_goals try decide
          all_goals try assumption
        try simp only [Act.put, List.getElem_toArray, List.getElem_cons_succ, List.getElem_cons_zero, List.setIfInBounds_toArray, List.set_cons_zero, List.set_cons_succ]
        refine wpAnyH_take (i := 2) (v := (.pointer (some ⟨p, 0, none⟩))) rfl (by kernel_rfl) (by kernel_rfl) (by kernel_rfl) (fun _ _ _ h => h) (Or.inl ⟨by rfl, ?_⟩) (by assumption) ?_
        · intro w9 hSw
          try dsimp only at hSw
          go_simp
          all_goals try decide
          all_goals try assumption
        try simp only [Act.put, List.getElem_toArray, List.getElem_cons_succ, List.getElem_cons_zero, List.setIfInBounds_toArray, List.set_cons_zero, List.set_cons_succ]
        refine wpAnyH_take (i := 3) (v := (.slice (some ⟨B, 0, none⟩) N cap)) rfl (by kernel_rfl) (by kernel_rfl) (by kernel_rfl) (fun _ _ _ h => h) (Or.inl ⟨by rfl, ?_⟩) (by assumption) ?_
        · intro w9 hSw
          try dsimp only at hSw
          go_simp
          all_goals try decide
          all_goals try assumption
        try simp only [Act.put, List.getElem_toArray, List.getElem_cons_succ, List.getElem_cons_zero, List.setIfInBounds_toArray, List.set_cons_zero, List.set_cons_succ]
        refine wpAnyH_take (i := 4) (v := (.int .i64 (k : Int))) rfl (by kernel_rfl) (by kernel_rfl) (by kernel_rfl) (fun _ _ _ h => h) (Or.inl ⟨by rfl, ?_⟩) (by assumption) ?_
        · intro w9 hSw
          try dsimp only at hSw
          go_simp
          all_goals try decide
          all_goals try assumption
        try simp only [Act.put, List.getElem_toArray, List.getElem_cons_succ, List.getElem_cons_zero, List.setIfInBounds_toArray, List.set_cons_zero, List.set_cons_succ]
        refine wpAnyH_take (i := 5) (v := (.int .i64 (K : Int))) rfl (by kernel_rfl) (by kernel_rfl) (by kernel_rfl) (fun _ _ _ h => h) (Or.inl ⟨by rfl, ?_⟩) (by assumption) ?_
        · intro w9 hSw
          try dsimp only at hSw
          go_simp
          all_goals try decide
          all_goals try assumption
        try simp only [Act.put, List.getElem_toArray, List.getElem_cons_succ, List.getElem_cons_zero, List.setIfInBounds_toArray, List.set_cons_zero, List.set_cons_succ]
        refine wpAnyH_take (i := 6) (v := (.int .i64 (d : Int))) rfl (by kernel_rfl) (by kernel_rfl) (by kernel_rfl) (fun _ _ _ h => h) (Or.inl ⟨by rfl, ?_⟩) (by assumption) ?_
        · intro w9 hSw
          try dsimp only at hSw
          go_simp
          all_goals try decide
          all_goals try assumption
        try simp only [Act.put, List.getElem_toArray, List.getElem_cons_succ, List.getElem_cons_zero, List.setIfInBounds_toArray, List.set_cons_zero, List.set_cons_succ]
        refine wpAnyH_take (i := 7) (v := (.int .i64 (J : Int))) rfl (by kernel_rfl) (by kernel_rfl) (by kernel_rfl) (fun _ _ _ h => h) (Or.inl ⟨by rfl, ?_⟩) (by assumption) ?_
        · intro w9 hSw
          try dsimp only at hSw
          go_simp
          all_goals try decide
          all_goals try assumption
        try simp only [Act.put, List.getElem_toArray, List.getElem_cons_succ, List.getElem_cons_zero, List.setIfInBounds_toArray, List.set_cons_zero, List.set_cons_succ]
        refine wpAnyH_take (i := 8) (v := (.agg #[.int .u8 b0, .int .u8 b1, .int .u8 b2, .int .u8 b3])) rfl (by kernel_rfl) (by kernel_rfl) (by kernel_rfl) (fun _ _ _ h => h) (Or.inl ⟨by rfl, ?_⟩) (by assumption) ?_
        · intro w9 hSw
          try dsimp only at hSw
          go_simp
          all_goals try decide
          all_goals try assumption
        try simp only [Act.put, List.getElem_toArray, List.getElem_cons_succ, List.getElem_cons_zero, List.setIfInBounds_toArray, List.set_cons_zero, List.set_cons_succ]
        refine wpAnyH_take (i := 9) (v := (.pointer (some ⟨B, J * 4, none⟩))) rfl (by kernel_rfl) (by kernel_rfl) (by kernel_rfl) (fun _ _ _ h => h) (Or.inl ⟨by rfl, ?_⟩) (by assumption) ?_
        · intro w9 hSw
          try dsimp only at hSw
          go_simp
          all_goals try decide
          all_goals try assumption
        try simp only [Act.put, List.getElem_toArray, List.getElem_cons_succ, List.getElem_cons_zero, List.setIfInBounds_toArray, List.set_cons_zero, List.set_cons_succ]
        refine wpAnyH_ready (rs := [10]) (by kernel_rfl) (by simp) ?_
        refine AllReadyH.cons rfl (fun K' hK => ?_) AllReadyH.nil
        rw [if_pos (by rfl)]
        simp only [List.getElem_toArray, List.getElem_cons_succ, List.getElem_cons_zero]
        refine wp_store_by 32 (.tmp 54) (.tmp 53) rfl _ _ rfl rfl hst ?_
        refine hK.out _ _ KS (fun _ => ?_)
        refine wpAnyH_done (by kernel_rfl) ?_ _
        go_wp2_with fail
        go_ret
        rw [eg.out]
        exact ⟨rfl, RES.out⟩
      · have eg : Hid _ := NCU.out ALL.out hc
        have gb : ((s.step s.cs).1 == 0) = false := by simp [hc]
        have KW : Hid (Kp [p, B] w wr) := Kp.of bw
        generalize s.step s.cs = R at *
        clear CC CY N51 NCU NGO DH SD PW W4 ALL hc
        go_wp2_with fail
        refine CALL.mono ?_
        rintro e z ⟨rfl, Dz, kz⟩
        clear CALL
        have DD : Hid (IsD z p B n cap R.2 ∧ Kp [p, B] w z) := ⟨Dz, KW.out.trans (kz.more (by simp))⟩
        clear Dz kz
        go_wp2_with fail
        go_ret
        rw [eg.out]
        exact ⟨rfl, DD.out⟩

theorem writeD_any {w : World} {p B n cap : Nat} {s : FS} (h : IsD w p B n cap s) (hs : s.Ok) (k d b0 b1 b2 b3 : Int) (hw : Oct [b0, b1, b2, b3]) : Calls Try.prog 35 #[.pointer (some ⟨p, 0, none⟩), .int .i64 k, .int .i64 d, .agg (w4 b0 b1 b2 b3)] w fun e w' => e = .returned (.int .i64 (s.write n k d b0 b1 b2 b3).1) ∧ IsD w' p B n cap (s.write n k d b0 b1 b2 b3).2 ∧ Kp [p, B] w w' := by
  by_cases hb : refE s.of n k d ≠ 0
  · exact writeD_bad h k d b0 b1 b2 b3 hb
  · obtain ⟨ho, k', d', rfl, rfl, hk, hd⟩ := refE_zero (Classical.not_not.1 hb)
    exact writeD_ok h hs k' d' hk hd ho b0 b1 b2 b3 hw
#print axioms writeD_any
end Go.Proofs.Ytdohjolgcmokhaa
