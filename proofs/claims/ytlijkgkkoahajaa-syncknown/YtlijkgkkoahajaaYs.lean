/-
  The walks of Stamp and Stamped, the program's and the document's.
-/
import Derived.Test.YtlijkgkkoahajaaYi
import Derived.Lib.EndianBits
namespace Go.Proofs.Ytlijkgkkoahajaa
open Go.RowKit

/-- A time of day's frame. -/
abbrev stC (id days ms : Int) : Array Value := frC id 6 (ms % 256) (ms / 256 % 256) (ms / 65536 % 256) (ms / 16777216) (days % 256) (days / 256) 0 0 false
abbrev stV (id days ms : Int) : Value := .agg (stC id days ms)
abbrev zeroF : Value := frV 0 0 0 0 0 0 0 0 0 0 false

set_option linter.unusedSimpArgs false in
set_option maxHeartbeats 4000000 in
set_option maxRecDepth 100000 in
theorem ustamp_ok (id days ms : Int) (hi : id ≤ 2047) (h : ms < 86400000) (h0 : 0 ≤ ms) (hd : 0 ≤ days ∧ days < 65536) (w : World) : Calls Try.prog 27 #[.int .u16 id, .int .u16 days, .int .u32 ms] w fun e w' => e = .returned (.tuple #[stV id days ms, .int .i64 0]) ∧ Below w.heap.size w w' := by
  go_enter Try.func27, Try.ntmps27
  go_wp2_with fail
  exact bodyPost_ret (v := .tuple #[stV id days ms, .int .i64 0]) (by simp [results, Try.results27, go_sem]) rfl ⟨rfl, (by repeat (first | exact Below.refl _ _ | apply Below.drew | apply Below.al))⟩
set_option linter.unusedSimpArgs false in
set_option maxHeartbeats 4000000 in
set_option maxRecDepth 100000 in
theorem ustamp_bad (id days ms : Int) (h : 2047 < id ∨ 86400000 ≤ ms) (w : World) : Calls Try.prog 27 #[.int .u16 id, .int .u16 days, .int .u32 ms] w fun e w' => e = .returned (.tuple #[zeroF, .int .i64 2]) ∧ Below w.heap.size w w' := by
  by_cases hi : 2047 < id
  · clear h
    go_enter Try.func27, Try.ntmps27
    go_wp2_with fail
    exact bodyPost_ret (v := .tuple #[zeroF, .int .i64 2]) (by simp [results, Try.results27, go_sem]) rfl ⟨rfl, (by repeat (first | exact Below.refl _ _ | apply Below.drew | apply Below.al))⟩
  · have h2 : 86400000 ≤ ms := by omega
    clear h
    go_enter Try.func27, Try.ntmps27
    go_wp2_with fail
    exact bodyPost_ret (v := .tuple #[zeroF, .int .i64 2]) (by simp [results, Try.results27, go_sem]) rfl ⟨rfl, (by repeat (first | exact Below.refl _ _ | apply Below.drew | apply Below.al))⟩

theorem row_six (W : World) (n0 n1 n2 n3 n4 n5 : Int) (ho : Oct [n0, n1, n2, n3, n4, n5]) (k : Nat) (hk : k = W.heap.size) : Row (W.alloc (.cells #[.int .u8 n0, .int .u8 n1, .int .u8 n2, .int .u8 n3, .int .u8 n4, .int .u8 n5] 5)) (some ⟨k, 0, none⟩) 6 [n0, n1, n2, n3, n4, n5] := by
  subst hk
  exact row_lit _ _ _ [n0, n1, n2, n3, n4, n5] 6 rfl ho rfl
theorem oct_six (days ms : Int) (h : ms < 86400000) (h0 : 0 ≤ ms) (hd : 0 ≤ days ∧ days < 65536) : Oct [ms % 256, ms / 256 % 256, ms / 65536 % 256, ms / 16777216, days % 256, days / 256] := by
  intro n hn
  simp only [List.mem_cons, List.not_mem_nil, or_false] at hn
  rcases hn with rfl | rfl | rfl | rfl | rfl | rfl <;> omega

set_option linter.unusedSimpArgs false in
set_option maxHeartbeats 4000000 in
set_option maxRecDepth 100000 in
theorem stamp_high (id days ms : Int) (h2 : 86400000 ≤ ms) (w : World) : Calls Try.prog 26 #[.int .u16 id, .int .u16 days, .int .u32 ms] w fun e w' => e = .returned (.tuple #[zeroF, .int .i64 2]) ∧ Below w.heap.size w w' := by
  go_enter Try.func26, Try.ntmps26
  go_wp2_with fail
  exact bodyPost_ret (v := .tuple #[zeroF, .int .i64 2]) (by simp [results, Try.results26, go_sem]) rfl ⟨rfl, (by repeat (first | exact Below.refl _ _ | apply Below.drew | apply Below.al))⟩
set_option linter.unusedSimpArgs false in
set_option maxHeartbeats 4000000 in
set_option maxRecDepth 100000 in
theorem stamp_make (id days ms : Int) (x : FrR) (hx : mkR id [ms % 256, ms / 256 % 256, ms / 65536 % 256, ms / 16777216, days % 256, days / 256] = x) (h : ms < 86400000) (h0 : 0 ≤ ms) (hd : 0 ≤ days ∧ days < 65536) (w : World) : Calls Try.prog 26 #[.int .u16 id, .int .u16 days, .int .u32 ms] w fun e w' => e = .returned x.tup ∧ Below w.heap.size w w' := by
  have OC := oct_six days ms h h0 hd
  have MK := fun (W : World) (hr : Row W (some ⟨w.heap.size + 1, 0, none⟩) 6 [ms % 256, ms / 256 % 256, ms / 65536 % 256, ms / 16777216, days % 256, days / 256]) => make_any id (some ⟨w.heap.size + 1, 0, none⟩) 6 6 _ W hr
  rw [hx] at MK
  obtain ⟨i, n, d0, d1, d2, d3, d4, d5, d6, d7, r, c⟩ := x
  clear hx
  go_enter Try.func26, Try.ntmps26
  go_wp2_with fail
  refine (MK _ (row_six _ _ _ _ _ _ _ OC _ (by simp))).mono ?_
  rintro e w1 ⟨rfl, hb⟩
  have B1 : Below w.heap.size w w1 := Below.andThen (by repeat (first | exact Below.refl _ _ | apply Below.drew | apply Below.al)) hb
  have hg : w1.heap[w.heap.size]? = some (.cells (frC 0 0 0 0 0 0 0 0 0 0 false) 39 (0, 0)) := (hb.block _ (by simp; omega)).trans (by repeat (first | exact at11 _ _ _ (by simp) | assumption | refine ext11 ?_))
  clear hb MK OC
  go_wp2_with (refine wpList_store_row rfl 39 _ _ rfl w.heap.size (frC i n d0 d1 d2 d3 d4 d5 d6 d7 r) rfl rfl 39 _ hg infoF rfl (frC_one _ _ _ _ _ _ _ _ _ _ _) ?_)
  have hc := fun j => cell_of_row (w1.setRow w.heap.size (frC i n d0 d1 d2 d3 d4 d5 d6 d7 r)) w.heap.size j _ _ _ (setRow_heap _ _ _ _ _ _ hg)
  refine bodyPost_ret (v := FrR.tup ⟨i, n, d0, d1, d2, d3, d4, d5, d6, d7, r, c⟩) ?_ rfl ⟨rfl, below_setRow B1 (Nat.le_refl _) _⟩
  simp [results, Try.results26, go_sem, hc]
theorem stamp_ok (id days ms : Int) (hi : id ≤ 2047) (h : ms < 86400000) (h0 : 0 ≤ ms) (hd : 0 ≤ days ∧ days < 65536) (w : World) : Calls Try.prog 26 #[.int .u16 id, .int .u16 days, .int .u32 ms] w fun e w' => e = .returned (.tuple #[stV id days ms, .int .i64 0]) ∧ Below w.heap.size w w' :=
  stamp_make id days ms _ (mkR_good id [ms % 256, ms / 256 % 256, ms / 65536 % 256, ms / 16777216, days % 256, days / 256] hi (by simp)) h h0 hd w
theorem stamp_bad (id days ms : Int) (h : 2047 < id ∨ 86400000 ≤ ms) (h0 : 0 ≤ ms) (hd : 0 ≤ days ∧ days < 65536) (w : World) : Calls Try.prog 26 #[.int .u16 id, .int .u16 days, .int .u32 ms] w fun e w' => e = .returned (.tuple #[zeroF, .int .i64 2]) ∧ Below w.heap.size w w' := by
  by_cases h2 : 86400000 ≤ ms
  · exact stamp_high id days ms h2 w
  · exact stamp_make id days ms _ (mkR_bad id _ (.inl (by omega))) (by omega) h0 hd w

/-- The milliseconds and the days of eight bytes. -/
def msF (d0 d1 d2 d3 : Int) : Int := d0 + d1 * 256 + d2 * 65536 + d3 * 16777216
def dyF (d4 d5 : Int) : Int := d4 + d5 * 256
theorem ms_in {d0 d1 d2 d3 : Int} (o0 : 0 ≤ d0 ∧ d0 < 256) (o1 : 0 ≤ d1 ∧ d1 < 256) (o2 : 0 ≤ d2 ∧ d2 < 256) (o3 : 0 ≤ d3 ∧ d3 < 256) : 0 ≤ msF d0 d1 d2 d3 ∧ msF d0 d1 d2 d3 < 4294967296 := by unfold msF; omega
theorem dy_in {d4 d5 : Int} (o4 : 0 ≤ d4 ∧ d4 < 256) (o5 : 0 ≤ d5 ∧ d5 < 256) : 0 ≤ dyF d4 d5 ∧ dyF d4 d5 < 65536 := by unfold dyF; omega
theorem ms_bits {d0 d1 d2 d3 : Int} (o0 : 0 ≤ d0 ∧ d0 < 256) (o1 : 0 ≤ d1 ∧ d1 < 256) (o2 : 0 ≤ d2 ∧ d2 < 256) (o3 : 0 ≤ d3 ∧ d3 < 256) : bits .or .u32 (bits .or .u32 (bits .or .u32 d0 (d1 * 256)) (d2 * 65536)) (d3 * 16777216) = msF d0 d1 d2 d3 := by
  rw [Go.u32_or8 (y := d0) (x := d1 * 256) (by omega) (by omega) (by omega) (by omega) (by omega), Go.u32_or16 (y := d0 + d1 * 256) (x := d2 * 65536) (by omega) (by omega) (by omega) (by omega) (by omega), Go.u32_or24 (y := d0 + d1 * 256 + d2 * 65536) (x := d3 * 16777216) (by omega) (by omega) (by omega) (by omega) (by omega)]
  rfl
theorem dy_bits {d4 d5 : Int} (o4 : 0 ≤ d4 ∧ d4 < 256) (o5 : 0 ≤ d5 ∧ d5 < 256) : bits .or .u16 d4 (d5 * 256) = dyF d4 d5 := by
  rw [Go.u16_or8 (y := d4) (x := d5 * 256) (by omega) (by omega) (by omega) (by omega) (by omega)]
  rfl
/-- Is it the frame of a time of day? -/
def stB (i n d0 d1 d2 d3 d4 d5 d6 d7 : Int) (r : Bool) (id : Int) : Bool := decide (id ≤ 2047) && (decide (msF d0 d1 d2 d3 < 86400000) && sameF i n d0 d1 d2 d3 d4 d5 d6 d7 r id 6 (msF d0 d1 d2 d3 % 256) (msF d0 d1 d2 d3 / 256 % 256) (msF d0 d1 d2 d3 / 65536 % 256) (msF d0 d1 d2 d3 / 16777216) (dyF d4 d5 % 256) (dyF d4 d5 / 256) 0 0 false)
theorem sameF_comm (i n a0 a1 a2 a3 a4 a5 a6 a7 : Int) (r : Bool) (j m b0 b1 b2 b3 b4 b5 b6 b7 : Int) (s : Bool) : sameF i n a0 a1 a2 a3 a4 a5 a6 a7 r j m b0 b1 b2 b3 b4 b5 b6 b7 s = sameF j m b0 b1 b2 b3 b4 b5 b6 b7 s i n a0 a1 a2 a3 a4 a5 a6 a7 r := by
  simp [sameF, same8, BEq.comm]

set_option linter.unusedSimpArgs false in
set_option maxHeartbeats 4000000 in
set_option maxRecDepth 100000 in
theorem stamped_bad (i n d0 d1 d2 d3 d4 d5 d6 d7 : Int) (r : Bool) (id : Int) (o0 : 0 ≤ d0 ∧ d0 < 256) (o1 : 0 ≤ d1 ∧ d1 < 256) (o2 : 0 ≤ d2 ∧ d2 < 256) (o3 : 0 ≤ d3 ∧ d3 < 256) (o4 : 0 ≤ d4 ∧ d4 < 256) (o5 : 0 ≤ d5 ∧ d5 < 256) (h : 2047 < id ∨ 86400000 ≤ msF d0 d1 d2 d3) (w : World) : Calls Try.prog 28 #[frV i n d0 d1 d2 d3 d4 d5 d6 d7 r, .int .u16 id] w fun e w' => e = .returned (.tuple #[.int .u16 0, .int .u32 0, .bool false]) ∧ Below w.heap.size w w' := by
  obtain ⟨A1, hA1⟩ : ∃ A1, Hid (bits .or .u32 d0 (d1 * 256) = A1) := ⟨_, rfl⟩
  obtain ⟨A2, hA2⟩ : ∃ A2, Hid (bits .or .u32 A1 (d2 * 65536) = A2) := ⟨_, rfl⟩
  obtain ⟨MS, hMS⟩ : ∃ MS, Hid (MS = msF d0 d1 d2 d3) := ⟨_, rfl⟩
  obtain ⟨DY, hDY⟩ : ∃ DY, Hid (DY = dyF d4 d5) := ⟨_, rfl⟩
  have F1 := hA1.out
  have F2 := hA2.out
  have F3 : bits .or .u32 A2 (d3 * 16777216) = MS := by rw [← F2, ← F1, hMS.out]; exact ms_bits o0 o1 o2 o3
  have F4 : bits .or .u16 d4 (d5 * 256) = DY := by rw [hDY.out]; exact dy_bits o4 o5
  have hm := ms_in o0 o1 o2 o3
  have hy := dy_in o4 o5
  rw [← hMS.out] at hm
  rw [← hDY.out] at hy
  rw [← hMS.out] at h
  have ST := fun W => stamp_bad id DY MS h hm.1 hy W
  clear h hm hy
  clear hA1 hA2 hMS hDY
  go_enter Try.func28, Try.ntmps28
  go_wp2_with fail
  refine (ST _).mono ?_
  rintro e w1 ⟨rfl, hb⟩
  have B1 : Below w.heap.size w w1 := Below.andThen (by repeat (first | exact Below.refl _ _ | apply Below.drew | apply Below.al)) hb
  have FB : w1.heap[w.heap.size]? = some (.cells (frC i n d0 d1 d2 d3 d4 d5 d6 d7 r) 39 (0, 0)) := (hb.block _ (by simp; omega)).trans (by repeat (first | exact at11 _ _ _ (by simp) | assumption | refine ext11 ?_))
  obtain ⟨f0, f1, f2, f3, f4, f5, f6, f7, f8, f9, f10⟩ := frC_at FB
  have lf : w.heap.size < w1.heap.size := lt_of_heap FB
  clear hb ST FB
  go_wp2_with fail
  exact bodyPost_ret (v := .tuple #[.int .u16 0, .int .u32 0, .bool false]) (by simp [results, Try.results28, go_sem]) rfl ⟨rfl, Below.al B1 _⟩

set_option linter.unusedSimpArgs false in
set_option maxHeartbeats 4000000 in
set_option maxRecDepth 100000 in
theorem stamped_no (i n d0 d1 d2 d3 d4 d5 d6 d7 : Int) (r : Bool) (id : Int) (o0 : 0 ≤ d0 ∧ d0 < 256) (o1 : 0 ≤ d1 ∧ d1 < 256) (o2 : 0 ≤ d2 ∧ d2 < 256) (o3 : 0 ≤ d3 ∧ d3 < 256) (o4 : 0 ≤ d4 ∧ d4 < 256) (o5 : 0 ≤ d5 ∧ d5 < 256) (hi : id ≤ 2047) (h : msF d0 d1 d2 d3 < 86400000) (hs : sameF i n d0 d1 d2 d3 d4 d5 d6 d7 r id 6 (msF d0 d1 d2 d3 % 256) (msF d0 d1 d2 d3 / 256 % 256) (msF d0 d1 d2 d3 / 65536 % 256) (msF d0 d1 d2 d3 / 16777216) (dyF d4 d5 % 256) (dyF d4 d5 / 256) 0 0 false = false) (w : World) : Calls Try.prog 28 #[frV i n d0 d1 d2 d3 d4 d5 d6 d7 r, .int .u16 id] w fun e w' => e = .returned (.tuple #[.int .u16 0, .int .u32 0, .bool false]) ∧ Below w.heap.size w w' := by
  obtain ⟨A1, hA1⟩ : ∃ A1, Hid (bits .or .u32 d0 (d1 * 256) = A1) := ⟨_, rfl⟩
  obtain ⟨A2, hA2⟩ : ∃ A2, Hid (bits .or .u32 A1 (d2 * 65536) = A2) := ⟨_, rfl⟩
  obtain ⟨MS, hMS⟩ : ∃ MS, Hid (MS = msF d0 d1 d2 d3) := ⟨_, rfl⟩
  obtain ⟨DY, hDY⟩ : ∃ DY, Hid (DY = dyF d4 d5) := ⟨_, rfl⟩
  have F1 := hA1.out
  have F2 := hA2.out
  have F3 : bits .or .u32 A2 (d3 * 16777216) = MS := by rw [← F2, ← F1, hMS.out]; exact ms_bits o0 o1 o2 o3
  have F4 : bits .or .u16 d4 (d5 * 256) = DY := by rw [hDY.out]; exact dy_bits o4 o5
  have hm := ms_in o0 o1 o2 o3
  have hy := dy_in o4 o5
  rw [← hMS.out] at hm
  rw [← hDY.out] at hy
  rw [← hMS.out] at h
  rw [← hMS.out, ← hDY.out] at hs
  have ST := fun W => stamp_ok id DY MS hi h hm.1 hy W
  have hq := fun W => neqF W i n d0 d1 d2 d3 d4 d5 d6 d7 r id 6 (MS % 256) (MS / 256 % 256) (MS / 65536 % 256) (MS / 16777216) (DY % 256) (DY / 256) 0 0 false
  simp only [hs] at hq
  obtain ⟨g0, hg0⟩ : ∃ x, x = MS % 256 := ⟨_, rfl⟩
  obtain ⟨g1, hg1⟩ : ∃ x, x = MS / 256 % 256 := ⟨_, rfl⟩
  obtain ⟨g2, hg2⟩ : ∃ x, x = MS / 65536 % 256 := ⟨_, rfl⟩
  obtain ⟨g3, hg3⟩ : ∃ x, x = MS / 16777216 := ⟨_, rfl⟩
  obtain ⟨g4, hg4⟩ : ∃ x, x = DY % 256 := ⟨_, rfl⟩
  obtain ⟨g5, hg5⟩ : ∃ x, x = DY / 256 := ⟨_, rfl⟩
  have ST : ∀ W, Calls Try.prog 26 #[.int .u16 id, .int .u16 DY, .int .u32 MS] W fun e w' => e = .returned (.tuple #[frV id 6 g0 g1 g2 g3 g4 g5 0 0 false, .int .i64 0]) ∧ Below W.heap.size W w' := by rw [hg0, hg1, hg2, hg3, hg4, hg5]; exact ST
  simp only [← hg0, ← hg1, ← hg2, ← hg3, ← hg4, ← hg5] at hq
  clear hg0 hg1 hg2 hg3 hg4 hg5 hs h hm hy
  clear hA1 hA2 hMS hDY
  go_enter Try.func28, Try.ntmps28
  go_wp2_with fail
  refine (ST _).mono ?_
  rintro e w1 ⟨rfl, hb⟩
  have B1 : Below w.heap.size w w1 := Below.andThen (by repeat (first | exact Below.refl _ _ | apply Below.drew | apply Below.al)) hb
  have FB : w1.heap[w.heap.size]? = some (.cells (frC i n d0 d1 d2 d3 d4 d5 d6 d7 r) 39 (0, 0)) := (hb.block _ (by simp; omega)).trans (by repeat (first | exact at11 _ _ _ (by simp) | assumption | refine ext11 ?_))
  obtain ⟨f0, f1, f2, f3, f4, f5, f6, f7, f8, f9, f10⟩ := frC_at FB
  have lf : w.heap.size < w1.heap.size := lt_of_heap FB
  clear hb ST FB
  go_wp2_with fail
  exact bodyPost_ret (v := .tuple #[.int .u16 0, .int .u32 0, .bool false]) (by simp [results, Try.results28, go_sem]) rfl ⟨rfl, Below.al B1 _⟩

set_option linter.unusedSimpArgs false in
set_option maxHeartbeats 4000000 in
set_option maxRecDepth 100000 in
theorem stamped_yes (i n d0 d1 d2 d3 d4 d5 d6 d7 : Int) (r : Bool) (id : Int) (o0 : 0 ≤ d0 ∧ d0 < 256) (o1 : 0 ≤ d1 ∧ d1 < 256) (o2 : 0 ≤ d2 ∧ d2 < 256) (o3 : 0 ≤ d3 ∧ d3 < 256) (o4 : 0 ≤ d4 ∧ d4 < 256) (o5 : 0 ≤ d5 ∧ d5 < 256) (hi : id ≤ 2047) (h : msF d0 d1 d2 d3 < 86400000) (hs : sameF i n d0 d1 d2 d3 d4 d5 d6 d7 r id 6 (msF d0 d1 d2 d3 % 256) (msF d0 d1 d2 d3 / 256 % 256) (msF d0 d1 d2 d3 / 65536 % 256) (msF d0 d1 d2 d3 / 16777216) (dyF d4 d5 % 256) (dyF d4 d5 / 256) 0 0 false = true) (w : World) : Calls Try.prog 28 #[frV i n d0 d1 d2 d3 d4 d5 d6 d7 r, .int .u16 id] w fun e w' => e = .returned (.tuple #[.int .u16 (dyF d4 d5), .int .u32 (msF d0 d1 d2 d3), .bool true]) ∧ Below w.heap.size w w' := by
  obtain ⟨A1, hA1⟩ : ∃ A1, Hid (bits .or .u32 d0 (d1 * 256) = A1) := ⟨_, rfl⟩
  obtain ⟨A2, hA2⟩ : ∃ A2, Hid (bits .or .u32 A1 (d2 * 65536) = A2) := ⟨_, rfl⟩
  obtain ⟨MS, hMS⟩ : ∃ MS, Hid (MS = msF d0 d1 d2 d3) := ⟨_, rfl⟩
  obtain ⟨DY, hDY⟩ : ∃ DY, Hid (DY = dyF d4 d5) := ⟨_, rfl⟩
  have F1 := hA1.out
  have F2 := hA2.out
  have F3 : bits .or .u32 A2 (d3 * 16777216) = MS := by rw [← F2, ← F1, hMS.out]; exact ms_bits o0 o1 o2 o3
  have F4 : bits .or .u16 d4 (d5 * 256) = DY := by rw [hDY.out]; exact dy_bits o4 o5
  have hm := ms_in o0 o1 o2 o3
  have hy := dy_in o4 o5
  rw [← hMS.out] at hm
  rw [← hDY.out] at hy
  rw [← hMS.out] at h
  rw [← hMS.out, ← hDY.out] at hs ⊢
  have ST := fun W => stamp_ok id DY MS hi h hm.1 hy W
  have hq := fun W => neqF W i n d0 d1 d2 d3 d4 d5 d6 d7 r id 6 (MS % 256) (MS / 256 % 256) (MS / 65536 % 256) (MS / 16777216) (DY % 256) (DY / 256) 0 0 false
  simp only [hs] at hq
  obtain ⟨g0, hg0⟩ : ∃ x, x = MS % 256 := ⟨_, rfl⟩
  obtain ⟨g1, hg1⟩ : ∃ x, x = MS / 256 % 256 := ⟨_, rfl⟩
  obtain ⟨g2, hg2⟩ : ∃ x, x = MS / 65536 % 256 := ⟨_, rfl⟩
  obtain ⟨g3, hg3⟩ : ∃ x, x = MS / 16777216 := ⟨_, rfl⟩
  obtain ⟨g4, hg4⟩ : ∃ x, x = DY % 256 := ⟨_, rfl⟩
  obtain ⟨g5, hg5⟩ : ∃ x, x = DY / 256 := ⟨_, rfl⟩
  have ST : ∀ W, Calls Try.prog 26 #[.int .u16 id, .int .u16 DY, .int .u32 MS] W fun e w' => e = .returned (.tuple #[frV id 6 g0 g1 g2 g3 g4 g5 0 0 false, .int .i64 0]) ∧ Below W.heap.size W w' := by rw [hg0, hg1, hg2, hg3, hg4, hg5]; exact ST
  simp only [← hg0, ← hg1, ← hg2, ← hg3, ← hg4, ← hg5] at hq
  clear hg0 hg1 hg2 hg3 hg4 hg5 hs h hm hy
  clear hA1 hA2 hMS hDY
  go_enter Try.func28, Try.ntmps28
  go_wp2_with fail
  refine (ST _).mono ?_
  rintro e w1 ⟨rfl, hb⟩
  have B1 : Below w.heap.size w w1 := Below.andThen (by repeat (first | exact Below.refl _ _ | apply Below.drew | apply Below.al)) hb
  have FB : w1.heap[w.heap.size]? = some (.cells (frC i n d0 d1 d2 d3 d4 d5 d6 d7 r) 39 (0, 0)) := (hb.block _ (by simp; omega)).trans (by repeat (first | exact at11 _ _ _ (by simp) | assumption | refine ext11 ?_))
  obtain ⟨f0, f1, f2, f3, f4, f5, f6, f7, f8, f9, f10⟩ := frC_at FB
  have lf : w.heap.size < w1.heap.size := lt_of_heap FB
  clear hb ST FB
  go_wp2_with fail
  exact bodyPost_ret (v := .tuple #[.int .u16 DY, .int .u32 MS, .bool true]) (by simp [results, Try.results28, go_sem]) rfl ⟨rfl, Below.al B1 _⟩

set_option linter.unusedSimpArgs false in
set_option maxHeartbeats 4000000 in
set_option maxRecDepth 100000 in
theorem ustamped_bad (i n d0 d1 d2 d3 d4 d5 d6 d7 : Int) (r : Bool) (id : Int) (o0 : 0 ≤ d0 ∧ d0 < 256) (o1 : 0 ≤ d1 ∧ d1 < 256) (o2 : 0 ≤ d2 ∧ d2 < 256) (o3 : 0 ≤ d3 ∧ d3 < 256) (o4 : 0 ≤ d4 ∧ d4 < 256) (o5 : 0 ≤ d5 ∧ d5 < 256) (h : 2047 < id ∨ 86400000 ≤ msF d0 d1 d2 d3) (w : World) : Calls Try.prog 29 #[frV i n d0 d1 d2 d3 d4 d5 d6 d7 r, .int .u16 id] w fun e w' => e = .returned (.tuple #[.int .u16 0, .int .u32 0, .bool false]) ∧ Below w.heap.size w w' := by
  obtain ⟨A1, hA1⟩ : ∃ A1, Hid (bits .or .u32 d0 (d1 * 256) = A1) := ⟨_, rfl⟩
  obtain ⟨A2, hA2⟩ : ∃ A2, Hid (bits .or .u32 A1 (d2 * 65536) = A2) := ⟨_, rfl⟩
  obtain ⟨MS, hMS⟩ : ∃ MS, Hid (MS = msF d0 d1 d2 d3) := ⟨_, rfl⟩
  obtain ⟨DY, hDY⟩ : ∃ DY, Hid (DY = dyF d4 d5) := ⟨_, rfl⟩
  have F1 := hA1.out
  have F2 := hA2.out
  have F3 : bits .or .u32 A2 (d3 * 16777216) = MS := by rw [← F2, ← F1, hMS.out]; exact ms_bits o0 o1 o2 o3
  have F4 : bits .or .u16 d4 (d5 * 256) = DY := by rw [hDY.out]; exact dy_bits o4 o5
  have hm := ms_in o0 o1 o2 o3
  have hy := dy_in o4 o5
  rw [← hMS.out] at hm
  rw [← hDY.out] at hy
  rw [← hMS.out] at h
  have ST := fun W => ustamp_bad id DY MS h W
  clear h hm hy
  clear hA1 hA2 hMS hDY
  go_enter Try.func29, Try.ntmps29
  go_wp2_with fail
  refine (ST _).mono ?_
  rintro e w1 ⟨rfl, hb⟩
  have B1 : Below w.heap.size w w1 := Below.andThen (by repeat (first | exact Below.refl _ _ | apply Below.drew | apply Below.al)) hb
  have FB : w1.heap[w.heap.size]? = some (.cells (frC i n d0 d1 d2 d3 d4 d5 d6 d7 r) 39 (0, 0)) := (hb.block _ (by simp; omega)).trans (by repeat (first | exact at11 _ _ _ (by simp) | assumption | refine ext11 ?_))
  obtain ⟨f0, f1, f2, f3, f4, f5, f6, f7, f8, f9, f10⟩ := frC_at FB
  have lf : w.heap.size < w1.heap.size := lt_of_heap FB
  clear hb ST FB
  go_wp2_with fail
  exact bodyPost_ret (v := .tuple #[.int .u16 0, .int .u32 0, .bool false]) (by simp [results, Try.results29, go_sem]) rfl ⟨rfl, Below.al B1 _⟩

set_option linter.unusedSimpArgs false in
set_option maxHeartbeats 4000000 in
set_option maxRecDepth 100000 in
theorem ustamped_no (i n d0 d1 d2 d3 d4 d5 d6 d7 : Int) (r : Bool) (id : Int) (o0 : 0 ≤ d0 ∧ d0 < 256) (o1 : 0 ≤ d1 ∧ d1 < 256) (o2 : 0 ≤ d2 ∧ d2 < 256) (o3 : 0 ≤ d3 ∧ d3 < 256) (o4 : 0 ≤ d4 ∧ d4 < 256) (o5 : 0 ≤ d5 ∧ d5 < 256) (hi : id ≤ 2047) (h : msF d0 d1 d2 d3 < 86400000) (hs : sameF i n d0 d1 d2 d3 d4 d5 d6 d7 r id 6 (msF d0 d1 d2 d3 % 256) (msF d0 d1 d2 d3 / 256 % 256) (msF d0 d1 d2 d3 / 65536 % 256) (msF d0 d1 d2 d3 / 16777216) (dyF d4 d5 % 256) (dyF d4 d5 / 256) 0 0 false = false) (w : World) : Calls Try.prog 29 #[frV i n d0 d1 d2 d3 d4 d5 d6 d7 r, .int .u16 id] w fun e w' => e = .returned (.tuple #[.int .u16 0, .int .u32 0, .bool false]) ∧ Below w.heap.size w w' := by
  obtain ⟨A1, hA1⟩ : ∃ A1, Hid (bits .or .u32 d0 (d1 * 256) = A1) := ⟨_, rfl⟩
  obtain ⟨A2, hA2⟩ : ∃ A2, Hid (bits .or .u32 A1 (d2 * 65536) = A2) := ⟨_, rfl⟩
  obtain ⟨MS, hMS⟩ : ∃ MS, Hid (MS = msF d0 d1 d2 d3) := ⟨_, rfl⟩
  obtain ⟨DY, hDY⟩ : ∃ DY, Hid (DY = dyF d4 d5) := ⟨_, rfl⟩
  have F1 := hA1.out
  have F2 := hA2.out
  have F3 : bits .or .u32 A2 (d3 * 16777216) = MS := by rw [← F2, ← F1, hMS.out]; exact ms_bits o0 o1 o2 o3
  have F4 : bits .or .u16 d4 (d5 * 256) = DY := by rw [hDY.out]; exact dy_bits o4 o5
  have hm := ms_in o0 o1 o2 o3
  have hy := dy_in o4 o5
  rw [← hMS.out] at hm
  rw [← hDY.out] at hy
  rw [← hMS.out] at h
  rw [← hMS.out, ← hDY.out] at hs
  have ST := fun W => ustamp_ok id DY MS hi h hm.1 hy W
  have hq := fun W => neqF W id 6 (MS % 256) (MS / 256 % 256) (MS / 65536 % 256) (MS / 16777216) (DY % 256) (DY / 256) 0 0 false i n d0 d1 d2 d3 d4 d5 d6 d7 r
  simp only [sameF_comm id, hs] at hq
  obtain ⟨g0, hg0⟩ : ∃ x, x = MS % 256 := ⟨_, rfl⟩
  obtain ⟨g1, hg1⟩ : ∃ x, x = MS / 256 % 256 := ⟨_, rfl⟩
  obtain ⟨g2, hg2⟩ : ∃ x, x = MS / 65536 % 256 := ⟨_, rfl⟩
  obtain ⟨g3, hg3⟩ : ∃ x, x = MS / 16777216 := ⟨_, rfl⟩
  obtain ⟨g4, hg4⟩ : ∃ x, x = DY % 256 := ⟨_, rfl⟩
  obtain ⟨g5, hg5⟩ : ∃ x, x = DY / 256 := ⟨_, rfl⟩
  have ST : ∀ W, Calls Try.prog 27 #[.int .u16 id, .int .u16 DY, .int .u32 MS] W fun e w' => e = .returned (.tuple #[frV id 6 g0 g1 g2 g3 g4 g5 0 0 false, .int .i64 0]) ∧ Below W.heap.size W w' := by rw [hg0, hg1, hg2, hg3, hg4, hg5]; exact ST
  simp only [← hg0, ← hg1, ← hg2, ← hg3, ← hg4, ← hg5] at hq
  clear hg0 hg1 hg2 hg3 hg4 hg5 hs h hm hy
  clear hA1 hA2 hMS hDY
  go_enter Try.func29, Try.ntmps29
  go_wp2_with fail
  refine (ST _).mono ?_
  rintro e w1 ⟨rfl, hb⟩
  have B1 : Below w.heap.size w w1 := Below.andThen (by repeat (first | exact Below.refl _ _ | apply Below.drew | apply Below.al)) hb
  have FB : w1.heap[w.heap.size]? = some (.cells (frC i n d0 d1 d2 d3 d4 d5 d6 d7 r) 39 (0, 0)) := (hb.block _ (by simp; omega)).trans (by repeat (first | exact at11 _ _ _ (by simp) | assumption | refine ext11 ?_))
  obtain ⟨f0, f1, f2, f3, f4, f5, f6, f7, f8, f9, f10⟩ := frC_at FB
  have lf : w.heap.size < w1.heap.size := lt_of_heap FB
  clear hb ST FB
  go_wp2_with fail
  exact bodyPost_ret (v := .tuple #[.int .u16 0, .int .u32 0, .bool false]) (by simp [results, Try.results29, go_sem]) rfl ⟨rfl, Below.al B1 _⟩

set_option linter.unusedSimpArgs false in
set_option maxHeartbeats 4000000 in
set_option maxRecDepth 100000 in
theorem ustamped_yes (i n d0 d1 d2 d3 d4 d5 d6 d7 : Int) (r : Bool) (id : Int) (o0 : 0 ≤ d0 ∧ d0 < 256) (o1 : 0 ≤ d1 ∧ d1 < 256) (o2 : 0 ≤ d2 ∧ d2 < 256) (o3 : 0 ≤ d3 ∧ d3 < 256) (o4 : 0 ≤ d4 ∧ d4 < 256) (o5 : 0 ≤ d5 ∧ d5 < 256) (hi : id ≤ 2047) (h : msF d0 d1 d2 d3 < 86400000) (hs : sameF i n d0 d1 d2 d3 d4 d5 d6 d7 r id 6 (msF d0 d1 d2 d3 % 256) (msF d0 d1 d2 d3 / 256 % 256) (msF d0 d1 d2 d3 / 65536 % 256) (msF d0 d1 d2 d3 / 16777216) (dyF d4 d5 % 256) (dyF d4 d5 / 256) 0 0 false = true) (w : World) : Calls Try.prog 29 #[frV i n d0 d1 d2 d3 d4 d5 d6 d7 r, .int .u16 id] w fun e w' => e = .returned (.tuple #[.int .u16 (dyF d4 d5), .int .u32 (msF d0 d1 d2 d3), .bool true]) ∧ Below w.heap.size w w' := by
  obtain ⟨A1, hA1⟩ : ∃ A1, Hid (bits .or .u32 d0 (d1 * 256) = A1) := ⟨_, rfl⟩
  obtain ⟨A2, hA2⟩ : ∃ A2, Hid (bits .or .u32 A1 (d2 * 65536) = A2) := ⟨_, rfl⟩
  obtain ⟨MS, hMS⟩ : ∃ MS, Hid (MS = msF d0 d1 d2 d3) := ⟨_, rfl⟩
  obtain ⟨DY, hDY⟩ : ∃ DY, Hid (DY = dyF d4 d5) := ⟨_, rfl⟩
  have F1 := hA1.out
  have F2 := hA2.out
  have F3 : bits .or .u32 A2 (d3 * 16777216) = MS := by rw [← F2, ← F1, hMS.out]; exact ms_bits o0 o1 o2 o3
  have F4 : bits .or .u16 d4 (d5 * 256) = DY := by rw [hDY.out]; exact dy_bits o4 o5
  have hm := ms_in o0 o1 o2 o3
  have hy := dy_in o4 o5
  rw [← hMS.out] at hm
  rw [← hDY.out] at hy
  rw [← hMS.out] at h
  rw [← hMS.out, ← hDY.out] at hs ⊢
  have ST := fun W => ustamp_ok id DY MS hi h hm.1 hy W
  have hq := fun W => neqF W id 6 (MS % 256) (MS / 256 % 256) (MS / 65536 % 256) (MS / 16777216) (DY % 256) (DY / 256) 0 0 false i n d0 d1 d2 d3 d4 d5 d6 d7 r
  simp only [sameF_comm id, hs] at hq
  obtain ⟨g0, hg0⟩ : ∃ x, x = MS % 256 := ⟨_, rfl⟩
  obtain ⟨g1, hg1⟩ : ∃ x, x = MS / 256 % 256 := ⟨_, rfl⟩
  obtain ⟨g2, hg2⟩ : ∃ x, x = MS / 65536 % 256 := ⟨_, rfl⟩
  obtain ⟨g3, hg3⟩ : ∃ x, x = MS / 16777216 := ⟨_, rfl⟩
  obtain ⟨g4, hg4⟩ : ∃ x, x = DY % 256 := ⟨_, rfl⟩
  obtain ⟨g5, hg5⟩ : ∃ x, x = DY / 256 := ⟨_, rfl⟩
  have ST : ∀ W, Calls Try.prog 27 #[.int .u16 id, .int .u16 DY, .int .u32 MS] W fun e w' => e = .returned (.tuple #[frV id 6 g0 g1 g2 g3 g4 g5 0 0 false, .int .i64 0]) ∧ Below W.heap.size W w' := by rw [hg0, hg1, hg2, hg3, hg4, hg5]; exact ST
  simp only [← hg0, ← hg1, ← hg2, ← hg3, ← hg4, ← hg5] at hq
  clear hg0 hg1 hg2 hg3 hg4 hg5 hs h hm hy
  clear hA1 hA2 hMS hDY
  go_enter Try.func29, Try.ntmps29
  go_wp2_with fail
  refine (ST _).mono ?_
  rintro e w1 ⟨rfl, hb⟩
  have B1 : Below w.heap.size w w1 := Below.andThen (by repeat (first | exact Below.refl _ _ | apply Below.drew | apply Below.al)) hb
  have FB : w1.heap[w.heap.size]? = some (.cells (frC i n d0 d1 d2 d3 d4 d5 d6 d7 r) 39 (0, 0)) := (hb.block _ (by simp; omega)).trans (by repeat (first | exact at11 _ _ _ (by simp) | assumption | refine ext11 ?_))
  obtain ⟨f0, f1, f2, f3, f4, f5, f6, f7, f8, f9, f10⟩ := frC_at FB
  have lf : w.heap.size < w1.heap.size := lt_of_heap FB
  clear hb ST FB
  go_wp2_with fail
  exact bodyPost_ret (v := .tuple #[.int .u16 DY, .int .u32 MS, .bool true]) (by simp [results, Try.results29, go_sem]) rfl ⟨rfl, Below.al B1 _⟩

theorem stamped_any (i n d0 d1 d2 d3 d4 d5 d6 d7 : Int) (r : Bool) (id : Int) (ho : Oct [d0, d1, d2, d3, d4, d5, d6, d7]) (w : World) : Calls Try.prog 28 #[frV i n d0 d1 d2 d3 d4 d5 d6 d7 r, .int .u16 id] w fun e w' => e = .returned (.tuple #[.int .u16 (if stB i n d0 d1 d2 d3 d4 d5 d6 d7 r id = true then dyF d4 d5 else 0), .int .u32 (if stB i n d0 d1 d2 d3 d4 d5 d6 d7 r id = true then msF d0 d1 d2 d3 else 0), .bool (stB i n d0 d1 d2 d3 d4 d5 d6 d7 r id)]) ∧ Below w.heap.size w w' := by
  have o0 : 0 ≤ d0 ∧ d0 < 256 := ho d0 (by simp)
  have o1 : 0 ≤ d1 ∧ d1 < 256 := ho d1 (by simp)
  have o2 : 0 ≤ d2 ∧ d2 < 256 := ho d2 (by simp)
  have o3 : 0 ≤ d3 ∧ d3 < 256 := ho d3 (by simp)
  have o4 : 0 ≤ d4 ∧ d4 < 256 := ho d4 (by simp)
  have o5 : 0 ≤ d5 ∧ d5 < 256 := ho d5 (by simp)
  by_cases h1 : 2047 < id ∨ 86400000 ≤ msF d0 d1 d2 d3
  · rw [show stB i n d0 d1 d2 d3 d4 d5 d6 d7 r id = false from by unfold stB; rcases h1 with h | h <;> simp <;> omega]
    exact stamped_bad i n d0 d1 d2 d3 d4 d5 d6 d7 r id o0 o1 o2 o3 o4 o5 h1 w
  · have a1 : id ≤ 2047 := by omega
    have a2 : msF d0 d1 d2 d3 < 86400000 := by omega
    have e : stB i n d0 d1 d2 d3 d4 d5 d6 d7 r id = sameF i n d0 d1 d2 d3 d4 d5 d6 d7 r id 6 (msF d0 d1 d2 d3 % 256) (msF d0 d1 d2 d3 / 256 % 256) (msF d0 d1 d2 d3 / 65536 % 256) (msF d0 d1 d2 d3 / 16777216) (dyF d4 d5 % 256) (dyF d4 d5 / 256) 0 0 false := by unfold stB; rw [decide_eq_true a1, decide_eq_true a2]; rfl
    rw [e]
    cases hs : sameF i n d0 d1 d2 d3 d4 d5 d6 d7 r id 6 (msF d0 d1 d2 d3 % 256) (msF d0 d1 d2 d3 / 256 % 256) (msF d0 d1 d2 d3 / 65536 % 256) (msF d0 d1 d2 d3 / 16777216) (dyF d4 d5 % 256) (dyF d4 d5 / 256) 0 0 false with
    | false => exact stamped_no i n d0 d1 d2 d3 d4 d5 d6 d7 r id o0 o1 o2 o3 o4 o5 a1 a2 hs w
    | true => exact stamped_yes i n d0 d1 d2 d3 d4 d5 d6 d7 r id o0 o1 o2 o3 o4 o5 a1 a2 hs w

theorem ustamped_any (i n d0 d1 d2 d3 d4 d5 d6 d7 : Int) (r : Bool) (id : Int) (ho : Oct [d0, d1, d2, d3, d4, d5, d6, d7]) (w : World) : Calls Try.prog 29 #[frV i n d0 d1 d2 d3 d4 d5 d6 d7 r, .int .u16 id] w fun e w' => e = .returned (.tuple #[.int .u16 (if stB i n d0 d1 d2 d3 d4 d5 d6 d7 r id = true then dyF d4 d5 else 0), .int .u32 (if stB i n d0 d1 d2 d3 d4 d5 d6 d7 r id = true then msF d0 d1 d2 d3 else 0), .bool (stB i n d0 d1 d2 d3 d4 d5 d6 d7 r id)]) ∧ Below w.heap.size w w' := by
  have o0 : 0 ≤ d0 ∧ d0 < 256 := ho d0 (by simp)
  have o1 : 0 ≤ d1 ∧ d1 < 256 := ho d1 (by simp)
  have o2 : 0 ≤ d2 ∧ d2 < 256 := ho d2 (by simp)
  have o3 : 0 ≤ d3 ∧ d3 < 256 := ho d3 (by simp)
  have o4 : 0 ≤ d4 ∧ d4 < 256 := ho d4 (by simp)
  have o5 : 0 ≤ d5 ∧ d5 < 256 := ho d5 (by simp)
  by_cases h1 : 2047 < id ∨ 86400000 ≤ msF d0 d1 d2 d3
  · rw [show stB i n d0 d1 d2 d3 d4 d5 d6 d7 r id = false from by unfold stB; rcases h1 with h | h <;> simp <;> omega]
    exact ustamped_bad i n d0 d1 d2 d3 d4 d5 d6 d7 r id o0 o1 o2 o3 o4 o5 h1 w
  · have a1 : id ≤ 2047 := by omega
    have a2 : msF d0 d1 d2 d3 < 86400000 := by omega
    have e : stB i n d0 d1 d2 d3 d4 d5 d6 d7 r id = sameF i n d0 d1 d2 d3 d4 d5 d6 d7 r id 6 (msF d0 d1 d2 d3 % 256) (msF d0 d1 d2 d3 / 256 % 256) (msF d0 d1 d2 d3 / 65536 % 256) (msF d0 d1 d2 d3 / 16777216) (dyF d4 d5 % 256) (dyF d4 d5 / 256) 0 0 false := by unfold stB; rw [decide_eq_true a1, decide_eq_true a2]; rfl
    rw [e]
    cases hs : sameF i n d0 d1 d2 d3 d4 d5 d6 d7 r id 6 (msF d0 d1 d2 d3 % 256) (msF d0 d1 d2 d3 / 256 % 256) (msF d0 d1 d2 d3 / 65536 % 256) (msF d0 d1 d2 d3 / 16777216) (dyF d4 d5 % 256) (dyF d4 d5 / 256) 0 0 false with
    | false => exact ustamped_no i n d0 d1 d2 d3 d4 d5 d6 d7 r id o0 o1 o2 o3 o4 o5 a1 a2 hs w
    | true => exact ustamped_yes i n d0 d1 d2 d3 d4 d5 d6 d7 r id o0 o1 o2 o3 o4 o5 a1 a2 hs w
#print axioms stamped_any
#print axioms ustamped_any
end Go.Proofs.Ytlijkgkkoahajaa
