/-
  SyncClocks of any time of day, and any times.
-/
import Derived.Test.YtlijkgkkoahajaaYu
namespace Go.Proofs.Ytlijkgkkoahajaa
open Go.RowKit

set_option linter.unusedSimpArgs false in
set_option maxHeartbeats 4000000 in
set_option maxRecDepth 100000 in
theorem clocks_bad (days ms now ask later : Int) (hl : 0 ≤ later ∧ later < 4294967296) (w : World) (h : 86400000 ≤ ms ∨ tmB now = false) : Calls Try.prog 7 #[.int .u16 days, .int .u32 ms, .int .i64 now, .int .i64 ask, .int .u32 later] w fun e w' => e = .returned (.bool true) ∧ Below w.heap.size w w' := by
  have hp : ((w.alloc (.cells (ckC false 0 0 0) 70)).alloc (.cells (ukC false 0 0 0) 72)).heap[w.heap.size]? = some (.cells (ckC false 0 0 0) 70 (0, 0)) := ext11 (at11 _ _ _ rfl)
  have hq : ((w.alloc (.cells (ckC false 0 0 0) 70)).alloc (.cells (ukC false 0 0 0) 72)).heap[w.heap.size + 1]? = some (.cells (ukC false 0 0 0) 72 (0, 0)) := at11 _ _ _ (by simp)
  have A0 := fun now => at_off w.heap.size 0 0 0 now _ hp
  have W1 : IntKind.i64.wrap (later % 86400000) = later % 86400000 := w64 _ (by omega) (by omega)
  have B2 : Below w.heap.size w ((w.alloc (.cells (ckC false 0 0 0) 70)).alloc (.cells (ukC false 0 0 0) 72)) := Below.al (Below.al (Below.refl _ _) _) _
  have U0 := fun now => uat_off (w.heap.size + 1) 0 0 0 now _ hq
  have SB := fun W => set_bad w.heap.size days ms now h W
  have SU := fun W => uset_bad (w.heap.size + 1) days ms now h W
  clear h hp hq
  go_enter Try.func7, Try.ntmps7
  go_wp2_with fail
  refine (A0 _).mono ?_
  rintro e w1 ⟨rfl, rfl⟩
  go_wp2_with fail
  refine (SB _).mono ?_
  rintro e w1 ⟨rfl, rfl⟩
  go_wp2_with fail
  refine (SU _).mono ?_
  rintro e w1 ⟨rfl, rfl⟩
  go_wp2_with fail
  refine (A0 _).mono ?_
  rintro e w1 ⟨rfl, rfl⟩
  go_wp2_with fail
  refine (U0 _).mono ?_
  rintro e w1 ⟨rfl, rfl⟩
  go_wp2_with fail
  refine (works_any _).mono ?_
  rintro e w1 ⟨rfl, b1⟩
  go_wp2_with fail
  go_ret
  exact ⟨rfl, Below.andThen B2 b1⟩
set_option linter.unusedSimpArgs false in
set_option maxHeartbeats 4000000 in
set_option maxRecDepth 100000 in
theorem clocks_none (days ms now ask later : Int) (h0 : 0 ≤ ms) (hl : 0 ≤ later ∧ later < 4294967296) (w : World) (hd : 0 ≤ days ∧ days < 65536) (h : ms < 86400000) (hn : tmB now = true) (hc : ¬ (tmB ask = true ∧ now ≤ ask)) : Calls Try.prog 7 #[.int .u16 days, .int .u32 ms, .int .i64 now, .int .i64 ask, .int .u32 later] w fun e w' => e = .returned (.bool true) ∧ Below w.heap.size w w' := by
  have hp : ((w.alloc (.cells (ckC false 0 0 0) 70)).alloc (.cells (ukC false 0 0 0) 72)).heap[w.heap.size]? = some (.cells (ckC false 0 0 0) 70 (0, 0)) := ext11 (at11 _ _ _ rfl)
  have hq : ((w.alloc (.cells (ckC false 0 0 0) 70)).alloc (.cells (ukC false 0 0 0) 72)).heap[w.heap.size + 1]? = some (.cells (ukC false 0 0 0) 72 (0, 0)) := at11 _ _ _ (by simp)
  have A0 := fun now => at_off w.heap.size 0 0 0 now _ hp
  have W1 : IntKind.i64.wrap (later % 86400000) = later % 86400000 := w64 _ (by omega) (by omega)
  have B2 : Below w.heap.size w ((w.alloc (.cells (ckC false 0 0 0) 70)).alloc (.cells (ukC false 0 0 0) 72)) := Below.al (Below.al (Below.refl _ _) _) _
  have SB := set_ok w.heap.size false 0 0 0 days ms now h hn _ hp
  have SU := fun W hq => uset_ok (w.heap.size + 1) false 0 0 0 days ms now h hn W hq
  obtain ⟨n0, n1⟩ := tmB_of hn
  have AT := fun t W hp => at_all w.heap.size now days ms t n0 ⟨h0, h⟩ W hp
  have UT := fun t W hq => uat_all (w.heap.size + 1) now days ms t n0 ⟨h0, h⟩ hd W hq
  have AT := AT ask
  have UT := UT ask
  rw [if_neg hc] at AT UT
  clear hc
  clear h hn
  go_enter Try.func7, Try.ntmps7
  go_wp2_with fail
  refine (A0 _).mono ?_
  rintro e w1 ⟨rfl, rfl⟩
  go_wp2_with fail
  refine SB.mono ?_
  rintro e w3 ⟨rfl, hp3, k3⟩
  have hq3 := Kp.at k3 (j := w.heap.size + 1) (by simp) hq
  have B3 : Below w.heap.size w w3 := Kp.below B2 k3 B2.size (by intro j hj; simp at hj; omega)
  clear SB k3 hp hq B2 A0
  go_wp2_with fail
  refine (SU _ hq3).mono ?_
  rintro e w4 ⟨rfl, hq4, k4⟩
  have hp4 := Kp.at k4 (j := w.heap.size) (by simp) hp3
  have B4 : Below w.heap.size w w4 := Kp.below B3 k4 B3.size (by intro j hj; simp at hj; omega)
  clear SU k4 hp3 hq3 B3
  go_wp2_with fail
  refine (AT _ hp4).mono ?_
  rintro e w5 ⟨rfl, b5⟩
  have B5 : Below w.heap.size w w5 := Below.andThen B4 b5
  have hq5 := blk11 b5 hq4
  have hp5 := blk11 b5 hp4
  clear b5 hp4 hq4 B4
  go_wp2_with fail
  refine (UT _ hq5).mono ?_
  rintro e w6 ⟨rfl, b6⟩
  have B6 : Below w.heap.size w w6 := Below.andThen B5 b6
  have hp6 := blk11 b6 hp5
  clear b6 B5 hp5 hq5
  go_wp2_with fail
  refine (works_any _).mono ?_
  rintro e w8 ⟨rfl, b8⟩
  go_wp2_with fail
  go_ret
  exact ⟨rfl, Below.andThen B6 b8⟩
set_option linter.unusedSimpArgs false in
set_option maxHeartbeats 4000000 in
set_option maxRecDepth 100000 in
theorem clocks_late (days ms now ask later : Int) (h0 : 0 ≤ ms) (hl : 0 ≤ later ∧ later < 4294967296) (w : World) (hd : 0 ≤ days ∧ days < 65536) (h : ms < 86400000) (hn : tmB now = true) (hc : tmB ask = true ∧ now ≤ ask) (hm : 1099511627776 < ask + later % 86400000) : Calls Try.prog 7 #[.int .u16 days, .int .u32 ms, .int .i64 now, .int .i64 ask, .int .u32 later] w fun e w' => e = .returned (.bool true) ∧ Below w.heap.size w w' := by
  have hp : ((w.alloc (.cells (ckC false 0 0 0) 70)).alloc (.cells (ukC false 0 0 0) 72)).heap[w.heap.size]? = some (.cells (ckC false 0 0 0) 70 (0, 0)) := ext11 (at11 _ _ _ rfl)
  have hq : ((w.alloc (.cells (ckC false 0 0 0) 70)).alloc (.cells (ukC false 0 0 0) 72)).heap[w.heap.size + 1]? = some (.cells (ukC false 0 0 0) 72 (0, 0)) := at11 _ _ _ (by simp)
  have A0 := fun now => at_off w.heap.size 0 0 0 now _ hp
  have W1 : IntKind.i64.wrap (later % 86400000) = later % 86400000 := w64 _ (by omega) (by omega)
  have B2 : Below w.heap.size w ((w.alloc (.cells (ckC false 0 0 0) 70)).alloc (.cells (ukC false 0 0 0) 72)) := Below.al (Below.al (Below.refl _ _) _) _
  have SB := set_ok w.heap.size false 0 0 0 days ms now h hn _ hp
  have SU := fun W hq => uset_ok (w.heap.size + 1) false 0 0 0 days ms now h hn W hq
  obtain ⟨n0, n1⟩ := tmB_of hn
  have AT := fun t W hp => at_all w.heap.size now days ms t n0 ⟨h0, h⟩ W hp
  have UT := fun t W hq => uat_all (w.heap.size + 1) now days ms t n0 ⟨h0, h⟩ hd W hq
  have ATa := AT ask
  have UT := UT ask
  rw [if_pos hc] at ATa UT
  obtain ⟨t0, t1⟩ := tmB_of hc.1
  have hna := hc.2
  obtain ⟨V, hV⟩ : ∃ V, Hid (later % 86400000 = V) := ⟨_, rfl⟩
  rw [hV.out] at W1
  have HV := hV.out
  have v0 : 0 ≤ V := by rw [← HV]; omega
  have v1 : V < 86400000 := by rw [← HV]; omega
  clear hV
  have W2 : IntKind.i64.wrap (ask + V) = ask + V := w64 _ (by omega) (by omega)
  have gt : 1099511627776 < ask + V := by rw [← HV]; exact hm
  clear AT hc
  clear h hn
  go_enter Try.func7, Try.ntmps7
  go_wp2_with fail
  refine (A0 _).mono ?_
  rintro e w1 ⟨rfl, rfl⟩
  go_wp2_with fail
  refine SB.mono ?_
  rintro e w3 ⟨rfl, hp3, k3⟩
  have hq3 := Kp.at k3 (j := w.heap.size + 1) (by simp) hq
  have B3 : Below w.heap.size w w3 := Kp.below B2 k3 B2.size (by intro j hj; simp at hj; omega)
  clear SB k3 hp hq B2 A0
  go_wp2_with fail
  refine (SU _ hq3).mono ?_
  rintro e w4 ⟨rfl, hq4, k4⟩
  have hp4 := Kp.at k4 (j := w.heap.size) (by simp) hp3
  have B4 : Below w.heap.size w w4 := Kp.below B3 k4 B3.size (by intro j hj; simp at hj; omega)
  clear SU k4 hp3 hq3 B3
  go_wp2_with fail
  refine (ATa _ hp4).mono ?_
  rintro e w5 ⟨rfl, b5⟩
  have B5 : Below w.heap.size w w5 := Below.andThen B4 b5
  have hq5 := blk11 b5 hq4
  have hp5 := blk11 b5 hp4
  clear b5 hp4 hq4 B4
  go_wp2_with fail
  refine (UT _ hq5).mono ?_
  rintro e w6 ⟨rfl, b6⟩
  have B6 : Below w.heap.size w w6 := Below.andThen B5 b6
  have hp6 := blk11 b6 hp5
  clear b6 B5 hp5 hq5
  go_wp2_with fail
  refine (works_any _).mono ?_
  rintro e w8 ⟨rfl, b8⟩
  go_wp2_with fail
  go_ret
  exact ⟨rfl, Below.andThen B6 b8⟩
set_option linter.unusedSimpArgs false in
set_option maxHeartbeats 4000000 in
set_option maxRecDepth 100000 in
theorem clocks_good (days ms now ask later : Int) (h0 : 0 ≤ ms) (hl : 0 ≤ later ∧ later < 4294967296) (w : World) (hd : 0 ≤ days ∧ days < 65536) (h : ms < 86400000) (hn : tmB now = true) (hc : tmB ask = true ∧ now ≤ ask) (hm : ¬ 1099511627776 < ask + later % 86400000) : Calls Try.prog 7 #[.int .u16 days, .int .u32 ms, .int .i64 now, .int .i64 ask, .int .u32 later] w fun e w' => e = .returned (.bool true) ∧ Below w.heap.size w w' := by
  have hp : ((w.alloc (.cells (ckC false 0 0 0) 70)).alloc (.cells (ukC false 0 0 0) 72)).heap[w.heap.size]? = some (.cells (ckC false 0 0 0) 70 (0, 0)) := ext11 (at11 _ _ _ rfl)
  have hq : ((w.alloc (.cells (ckC false 0 0 0) 70)).alloc (.cells (ukC false 0 0 0) 72)).heap[w.heap.size + 1]? = some (.cells (ukC false 0 0 0) 72 (0, 0)) := at11 _ _ _ (by simp)
  have A0 := fun now => at_off w.heap.size 0 0 0 now _ hp
  have W1 : IntKind.i64.wrap (later % 86400000) = later % 86400000 := w64 _ (by omega) (by omega)
  have B2 : Below w.heap.size w ((w.alloc (.cells (ckC false 0 0 0) 70)).alloc (.cells (ukC false 0 0 0) 72)) := Below.al (Below.al (Below.refl _ _) _) _
  have SB := set_ok w.heap.size false 0 0 0 days ms now h hn _ hp
  have SU := fun W hq => uset_ok (w.heap.size + 1) false 0 0 0 days ms now h hn W hq
  obtain ⟨n0, n1⟩ := tmB_of hn
  have AT := fun t W hp => at_all w.heap.size now days ms t n0 ⟨h0, h⟩ W hp
  have UT := fun t W hq => uat_all (w.heap.size + 1) now days ms t n0 ⟨h0, h⟩ hd W hq
  have ATa := AT ask
  have UT := UT ask
  rw [if_pos hc] at ATa UT
  obtain ⟨t0, t1⟩ := tmB_of hc.1
  have hna := hc.2
  obtain ⟨V, hV⟩ : ∃ V, Hid (later % 86400000 = V) := ⟨_, rfl⟩
  rw [hV.out] at W1
  have HV := hV.out
  have v0 : 0 ≤ V := by rw [← HV]; omega
  have v1 : V < 86400000 := by rw [← HV]; omega
  clear hV
  have W2 : IntKind.i64.wrap (ask + V) = ask + V := w64 _ (by omega) (by omega)
  have le : ¬ 1099511627776 < ask + V := by rw [← HV]; exact hm
  have ATb := AT (ask + V)
  rw [if_pos ⟨tmB_t (by omega) (by omega), by omega⟩] at ATb
  clear AT hc
  obtain ⟨kk, K1, K2, K3⟩ : ∃ kk : Int, IntKind.u16.wrap ((days + (ms + (ask + V) - now) / 86400000) % 65536 - (days + (ms + ask - now) / 86400000) % 65536) = kk ∧ kk * 86400000 + (ms + (ask + V) - now) % 86400000 - (ms + ask - now) % 86400000 = V ∧ (0 ≤ kk ∧ kk ≤ 1) := by
    have u : ∀ z : Int, IntKind.u16.wrap z = z % 65536 := fun z => by simp [IntKind.wrap, IntKind.bits, IntKind.signed]
    refine ⟨(ms + (ask + V) - now) / 86400000 - (ms + ask - now) / 86400000, ?_, by omega, by omega⟩
    rw [u]; omega
  obtain ⟨D1, hD1⟩ : ∃ x, x = (days + (ms + ask - now) / 86400000) % 65536 := ⟨_, rfl⟩
  obtain ⟨M1, hM1⟩ : ∃ x, x = (ms + ask - now) % 86400000 := ⟨_, rfl⟩
  obtain ⟨D2, hD2⟩ : ∃ x, x = (days + (ms + (ask + V) - now) / 86400000) % 65536 := ⟨_, rfl⟩
  obtain ⟨M2, hM2⟩ : ∃ x, x = (ms + (ask + V) - now) % 86400000 := ⟨_, rfl⟩
  have m1 : 0 ≤ M1 ∧ M1 < 86400000 := by omega
  have m2 : 0 ≤ M2 ∧ M2 < 86400000 := by omega
  rw [← hD1, ← hD2] at K1
  rw [← hM1, ← hM2] at K2
  rw [← hD1, ← hM1] at ATa UT
  rw [← hD2, ← hM2] at ATb
  clear hD1 hD2 hM1 hM2
  have KE : Hid (V = kk * 86400000 + M2 - M1) := K2.symm
  have X1 : IntKind.i64.wrap (kk * 86400000) = kk * 86400000 := w64 _ (by omega) (by omega)
  have X2 : IntKind.i64.wrap (kk * 86400000 + M2) = kk * 86400000 + M2 := w64 _ (by omega) (by omega)
  have X3 : IntKind.i64.wrap (kk * 86400000 + M2 - M1) = V := by rw [K2]; exact w64 _ (by omega) (by omega)
  have X4 : IntKind.i64.wrap kk = kk := w64 _ (by omega) (by omega)
  have X5 : IntKind.i64.wrap M1 = M1 := w64 _ (by omega) (by omega)
  have X6 : IntKind.i64.wrap M2 = M2 := w64 _ (by omega) (by omega)
  clear K2
  clear h hn
  go_enter Try.func7, Try.ntmps7
  go_wp2_with fail
  refine (A0 _).mono ?_
  rintro e w1 ⟨rfl, rfl⟩
  go_wp2_with fail
  refine SB.mono ?_
  rintro e w3 ⟨rfl, hp3, k3⟩
  have hq3 := Kp.at k3 (j := w.heap.size + 1) (by simp) hq
  have B3 : Below w.heap.size w w3 := Kp.below B2 k3 B2.size (by intro j hj; simp at hj; omega)
  clear SB k3 hp hq B2 A0
  go_wp2_with fail
  refine (SU _ hq3).mono ?_
  rintro e w4 ⟨rfl, hq4, k4⟩
  have hp4 := Kp.at k4 (j := w.heap.size) (by simp) hp3
  have B4 : Below w.heap.size w w4 := Kp.below B3 k4 B3.size (by intro j hj; simp at hj; omega)
  clear SU k4 hp3 hq3 B3
  go_wp2_with fail
  refine (ATa _ hp4).mono ?_
  rintro e w5 ⟨rfl, b5⟩
  have B5 : Below w.heap.size w w5 := Below.andThen B4 b5
  have hq5 := blk11 b5 hq4
  have hp5 := blk11 b5 hp4
  clear b5 hp4 hq4 B4
  go_wp2_with fail
  refine (UT _ hq5).mono ?_
  rintro e w6 ⟨rfl, b6⟩
  have B6 : Below w.heap.size w w6 := Below.andThen B5 b6
  have hp6 := blk11 b6 hp5
  clear b6 B5 hp5 hq5
  go_wp2_with fail
  refine (ATb _ hp6).mono ?_
  rintro e w7 ⟨rfl, b7⟩
  have B7 : Below w.heap.size w w7 := Below.andThen B6 b7
  clear b7 B6 hp6
  go_wp2_with fail
  refine (works_any _).mono ?_
  rintro e w8 ⟨rfl, b8⟩
  go_wp2_with fail
  go_ret
  exact ⟨rfl, Below.andThen B7 b8⟩

theorem syncClocks_any (days ms now ask later : Int) (h0 : 0 ≤ ms) (hl : 0 ≤ later ∧ later < 4294967296) (hd : 0 ≤ days ∧ days < 65536) (w : World) : Calls Try.prog 7 #[.int .u16 days, .int .u32 ms, .int .i64 now, .int .i64 ask, .int .u32 later] w fun e w' => e = .returned (.bool true) ∧ Below w.heap.size w w' := by
  by_cases h : 86400000 ≤ ms ∨ tmB now = false
  · exact clocks_bad days ms now ask later hl w h
  · have h1 : ms < 86400000 := by omega
    have hn : tmB now = true := by cases e : tmB now; exact absurd (.inr e) h; rfl
    by_cases hc : tmB ask = true ∧ now ≤ ask
    · by_cases hm : 1099511627776 < ask + later % 86400000
      · exact clocks_late days ms now ask later h0 hl w hd h1 hn hc hm
      · exact clocks_good days ms now ask later h0 hl w hd h1 hn hc hm
    · exact clocks_none days ms now ask later h0 hl w hd h1 hn hc
#print axioms syncClocks_any
end Go.Proofs.Ytlijkgkkoahajaa
