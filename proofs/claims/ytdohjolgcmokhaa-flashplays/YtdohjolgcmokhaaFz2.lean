/-
  The walks of the document's Read and Erase.
-/
import Derived.Test.YtdohjolgcmokhaaFz1
import Derived.Deep.RegionHeld3
namespace Go.Proofs.Ytdohjolgcmokhaa
open Go.RowKit

theorem IsD.wordS {w : World} {p B n cap : Nat} {s : FS} (h : IsD w p B n cap s) (k d J : Nat) (hJ : J = 256 * k + d) (hk : k < n) (hd : d < 256) : (loadVar 32 ⟨B, J * 4, none⟩).run Try.prog w = .ok (.agg (wdC (sec s.cs k) (4 * d))) w := by
  have e : ∀ j, j < 4 → (sec s.cs k).getD (4 * d + j) 0 = s.cs.getD (k * 1024 + d * 4 + j) 0 := fun j hj => by rw [sec_at _ _ _ (by omega), show k * 1024 + (4 * d + j) = k * 1024 + d * 4 + j from by omega]
  have e0 : (sec s.cs k).getD (4 * d) 0 = s.cs.getD (k * 1024 + d * 4) 0 := by rw [sec_at _ _ _ (by omega), show k * 1024 + 4 * d = k * 1024 + d * 4 from by omega]
  unfold wdC
  rw [e0, e 1 (by omega), e 2 (by omega), e 3 (by omega)]
  exact h.word k d J hJ hk hd

set_option linter.unusedSimpArgs false in
set_option maxHeartbeats 4000000 in
set_option maxRecDepth 100000 in
theorem readD_bad {w : World} {p B n cap : Nat} {s : FS} (h : IsD w p B n cap s) (k : Int) (hb : refE s.of n k 0 ≠ 0) :
    Calls Try.prog 37 #[.pointer (some ⟨p, 0, none⟩), .int .i64 k] w fun e w' => e = .returned (.tuple #[.slice none 0 0, .int .i64 (refE s.of n k 0)]) ∧ w' = w := by
  have hr := wrongD h k 0
  have gb : (refE s.of n k 0 != 0) = true := by simp [hb]
  generalize refE s.of n k 0 = E at *
  clear h hb
  go_enter Try.func37, Try.ntmps37
  go_wp2_with fail
  refine hr.mono ?_
  rintro e w ⟨rfl, rfl⟩
  clear hr
  go_wp2_with fail
  go_ret2
  exact ⟨rfl, rfl⟩

set_option linter.unusedSimpArgs false in
set_option maxHeartbeats 4000000 in
set_option maxRecDepth 100000 in
theorem readD_ok {w : World} {p B n cap : Nat} {s : FS} (h : IsD w p B n cap s) (k : Nat) (hk : k < n) (ho : s.of = false) :
    Calls Try.prog 37 #[.pointer (some ⟨p, 0, none⟩), .int .i64 k] w fun e w' => (∃ a c, e = .returned (.tuple #[.slice a 1024 c, .int .i64 0]) ∧ Told w w' a 1024 c (sec s.cs k)) ∧ Below w.heap.size w w' := by
  obtain ⟨i0, hi, hz0, hz1, hz2⟩ := info_parts info8
  have hn2 := h.n2
  have hr := wrongD h k 0
  rw [refE_ok ho n k 0 (by omega) (by omega) (by omega) (by omega)] at hr
  obtain ⟨K, hK⟩ : ∃ K, Hid (K = 256 * k) := ⟨_, rfl⟩
  have wx : IntKind.i64.wrap (256 * (k : Int)) = (K : Int) := by rw [hK.out, IntKind.wrap_i64]; omega
  obtain ⟨N, hN⟩ : ∃ N, Hid (N = 256 * n) := ⟨_, rfl⟩
  have k0 : Hid (∀ z, Below w.heap.size w z → z.cell? ⟨p, 0, none⟩ = some (.slice (some ⟨B, 0, none⟩) N cap)) := fun z hz => by rw [hN.out]; exact (h.next hz).c0
  have LD : Hid (∀ z, Below w.heap.size w z → ∀ d J : Nat, J = 256 * k + d → d < 256 → (loadVar 32 ⟨B, J * 4, none⟩).run Try.prog z = .ok (.agg (wdC (sec s.cs k) (4 * d))) z) := fun z hz d J e hd => (h.next hz).wordS k d J e hk hd
  have hl : (sec s.cs k).length = 1024 := sec_len h.len hk
  have hoct : Hid (Oct (sec s.cs k)) := sec_oct h.oct k
  generalize sec s.cs k = l at *
  have TN : Hid (∀ i : Nat, i < 256 → l.take (4 * (i + 1)) = l.take (4 * i) ++ [l.getD (4 * i) 0, l.getD (4 * i + 1) 0, l.getD (4 * i + 2) 0, l.getD (4 * i + 3) 0]) := fun i h => take_next l i (by omega)
  clear h ho
  go_enter Try.func37, Try.ntmps37
  go_wp2_with fail
  refine hr.mono ?_
  rintro e w ⟨rfl, rfl⟩
  clear hr
  go_wp2_with fail
  go_loopw [7, 8] (fun v u wr => ∃ i : Nat, i ≤ 256 ∧ u = .int .i64 i ∧ Below w.heap.size w wr ∧ wr.ownsRow w.heap.size 5 1 v (4 * i) ((l.take (4 * i)).map (Value.int .u8)))
    (fun _ u _ => 256 - (intOf u).toNat)
  case atStart => exact ⟨0, Nat.zero_le _, rfl, Below.refl _ _, by simp, .inl ⟨rfl, rfl⟩⟩
  case round =>
    obtain ⟨i, hi6, rfl, hb, hown⟩ := hrel
    have OWN : Hid (wr.ownsRow w.heap.size 5 1 u7 (4 * i) ((l.take (4 * i)).map (Value.int .u8))) := hown
    clear hown
    by_cases h : i < 256
    · have g : (i : Int) < 256 := by omega
      obtain ⟨J, hJ⟩ : ∃ J, Hid (J = 256 * k + i) := ⟨_, rfl⟩
      have wy : IntKind.i64.wrap ((K : Int) + (i : Int)) = (J : Int) := by rw [hJ.out, hK.out, IntKind.wrap_i64]; omega
      have gJ : (J : Int) < (N : Int) := by rw [hJ.out, hN.out]; omega
      have H := LD.out wr hb i J hJ.out h
      have kk := k0.out wr hb
      have HT := TN.out i h
      unfold wdC at H
      clear LD TN k0
      generalize l.getD (4 * i) 0 = q0 at *
      generalize l.getD (4 * i + 1) 0 = q1 at *
      generalize l.getD (4 * i + 2) 0 = q2 at *
      generalize l.getD (4 * i + 3) 0 = q3 at *
      have HT2 : Hid _ := HT
      clear HT
      have ST := run_storeVar_new (P := Try.prog) wr 32 #[.int .u8 0, .int .u8 0, .int .u8 0, .int .u8 0] #[.int .u8 q0, .int .u8 q1, .int .u8 q2, .int .u8 q3] size32 rfl (by simp [Value.oneCell'])
      have NW : ∀ j u, [Value.int .u8 q0, .int .u8 q1, .int .u8 q2, .int .u8 q3][j]? = some u → ((wr.alloc (.cells #[.int .u8 q0, .int .u8 q1, .int .u8 q2, .int .u8 q3] 32)).alloc (.cells #[.int .u8 q0, .int .u8 q1, .int .u8 q2, .int .u8 q3] 5)).cell? ((⟨wr.heap.size + 1, 0, none⟩ : Addr).add j) = some u := fun j u hj => by
        have e := World.cell?_alloc_new (wr.alloc (.cells #[.int .u8 q0, .int .u8 q1, .int .u8 q2, .int .u8 q3] 32)) #[.int .u8 q0, .int .u8 q1, .int .u8 q2, .int .u8 q3] 5 j
        rw [show (wr.alloc (.cells #[.int .u8 q0, .int .u8 q1, .int .u8 q2, .int .u8 q3] 32)).heap.size = wr.heap.size + 1 from by simp] at e
        rw [Addr.add_lit, Nat.zero_add, e, ← hj, List.getElem?_toArray]
      go_wp2_with (first | refine wpList_load_by rfl 32 (.tmp 28) rfl _ _ rfl H ?_ | refine wpList_store_by rfl 32 (.tmp 9) (.tmp 29) rfl _ _ rfl rfl ST ?_ | (at_builtin; refine wpList_append_own _ rfl _ _ 39 rfl w.heap.size 5 i0 (.int .u8 0) 1 1 Try.underlying39 hi hz0 hz1 hz2 rfl (by decide) _ _ _ rfl ((OWN.out.alloc _).alloc _) ⟨wr.heap.size + 1, 0, none⟩ 4 4 [.int .u8 q0, .int .u8 q1, .int .u8 q2, .int .u8 q3] rfl rfl NW (fun u hu => by simp at hu; rcases hu with rfl | rfl | rfl | rfl <;> rfl) (by unfold maxLen; omega) (by omega) (by have := hb.size; simp; omega) ?_))
      intro v' w2 hown' hgrow _
      have hown2 : w2.ownsRow w.heap.size 5 1 v' (4 * i + 4) (((l.take (4 * i)) ++ [q0, q1, q2, q3]).map (Value.int .u8)) := by rw [List.map_append, List.map_take]; exact hown'
      have hb2 : Below w.heap.size w w2 := (Below.al (Below.al hb _) _).grown hgrow (by have := hb.size; simp; omega) (fun j hj => (OWN.out.lt j hj).1)
      rw [← HT2.out] at hown2
      have OWN2 : Hid (w2.ownsRow w.heap.size 5 1 v' (4 * (i + 1)) ((l.take (4 * (i + 1))).map (Value.int .u8))) := hown2
      clear hown' hown2 hgrow ST
      go_wp2_with fail
      exact ⟨⟨i + 1, by omega, by go_num, hb2, OWN2.out⟩, by simp [intOf]; omega⟩
    · obtain rfl : i = 256 := by omega
      have e : l.take (4 * 256) = l := List.take_of_length_le (by omega)
      have O2 := OWN.out
      rw [e] at O2
      obtain ⟨a, cap, rfl, ht⟩ := own_told O2 hoct.out hl
      clear LD TN e O2 OWN k0
      go_wp2_with fail
      go_ret2
      exact ⟨⟨_, _, rfl, ht⟩, hb⟩
#print axioms readD_ok

theorem put_more {α : Type} (l m r : List α) (o : Nat) (h : o + m.length + r.length ≤ l.length) : put (put l o m) (o + m.length) r = put l o (m ++ r) := by
  have hl : (put l o m).length = l.length := put_len _ _ _ (by omega)
  apply List.ext_getElem?
  intro i
  rw [put_at _ _ _ _ (by omega), put_at _ _ _ _ (by omega), put_at _ _ _ _ (by rw [List.length_append]; omega)]
  rw [List.length_append]
  by_cases a : o + m.length ≤ i ∧ i < o + m.length + r.length
  · rw [if_pos a, if_pos (by omega), List.getElem?_append_right (by omega)]
    congr 1; omega
  · rw [if_neg a]
    by_cases b : o ≤ i ∧ i < o + m.length
    · rw [if_pos b, if_pos (by omega), List.getElem?_append_left (by omega)]
    · rw [if_neg b, if_neg (by omega)]
/-- A state with other bytes. -/
def FS.at (t : FS) (cs : List Int) : FS := ⟨cs, t.st, t.ar, t.lf, t.of⟩
theorem FS.step_cs (s : FS) (X Y : List Int) : (s.step X).1 = (s.step Y).1 ∧ ((s.step Y).1 = 0 → (s.step X).2 = (s.step Y).2.at X ∧ (s.step Y).2 = (s.step Y).2.at Y) ∧ ((s.step Y).1 ≠ 0 → (s.step X).2 = (s.step Y).2) := by
  by_cases ha : s.ar = true
  · by_cases hz : s.lf = 0
    · rw [FS.step_cut ha hz, FS.step_cut ha hz]
      exact ⟨rfl, fun e => by revert e; show (7 : Int) = 0 → _; intro e; omega, fun _ => rfl⟩
    · rw [FS.step_armed ha hz, FS.step_armed ha hz]
      exact ⟨rfl, fun _ => ⟨rfl, rfl⟩, fun e => absurd rfl e⟩
  · have ha : s.ar = false := by simpa using ha
    rw [FS.step_free ha, FS.step_free ha]
    exact ⟨rfl, fun _ => ⟨rfl, rfl⟩, fun e => absurd rfl e⟩
theorem IsD.putWord {w : World} {p B n cap : Nat} {s : FS} (h : IsD w p B n cap s) (k d J : Nat) (hJ : J = 256 * k + d) (hk : k < n) (hd : d < 256) (b0 b1 b2 b3 : Int) (hw : Oct [b0, b1, b2, b3]) :
    ∃ w', (storeVar 32 ⟨B, J * 4, none⟩ (.agg (w4 b0 b1 b2 b3))).run Try.prog w = .ok () w' ∧ IsD w' p B n cap (s.at (put s.cs (k * 1024 + d * 4) [b0, b1, b2, b3])) ∧ Kp [B] w w' := by
  obtain ⟨t, ex, hr⟩ := h.row
  have hl := h.len
  rw [show J * 4 = k * 1024 + d * 4 from by omega]
  exact ⟨_, store_part 32 4 size32 w B (k * 1024 + d * 4) _ t hr ([b0, b1, b2, b3].map (Value.int .u8)) rfl (by rw [List.size_toArray, List.length_append, List.length_map]; omega) (oneU8 _), h.over _ t hr _ _ hw (by simp; omega) _ rfl rfl rfl rfl, (Kp.refl _ _).row _ _ (.inl (by simp))⟩

set_option linter.unusedSimpArgs false in
set_option maxHeartbeats 4000000 in
set_option maxRecDepth 100000 in
theorem eraseD_bad {w : World} {p B n cap : Nat} {s : FS} (h : IsD w p B n cap s) (k : Int) (hb : refE s.of n k 0 ≠ 0) :
    Calls Try.prog 31 #[.pointer (some ⟨p, 0, none⟩), .int .i64 k] w fun e w' => e = .returned (.int .i64 (s.erase n k).1) ∧ IsD w' p B n cap (s.erase n k).2 ∧ Kp [p, B] w w' := by
  have hr := wrongD h k 0
  have e9 : s.erase n k = (refE s.of n k 0, s) := by unfold FS.erase; rw [if_pos hb]
  rw [e9]
  have gb : (refE s.of n k 0 == 0) = false := by simp [hb]
  have HH : Hid _ := h
  generalize refE s.of n k 0 = E at *
  clear h hb e9
  go_enter Try.func31, Try.ntmps31
  go_wp2_with fail
  refine hr.mono ?_
  rintro e w ⟨rfl, rfl⟩
  clear hr
  go_wp2_with fail
  go_loopw [6] (fun u wr => u = .int .i64 0 ∧ wr = w) (fun _ _ => 0)
  case atStart => exact ⟨rfl, rfl⟩
  case round =>
    obtain ⟨rfl, rfl⟩ := hrel
    go_wp2_with fail
    go_ret
    exact ⟨rfl, HH.out, Kp.refl _ _⟩

set_option linter.unusedSimpArgs false in
set_option maxHeartbeats 4000000 in
set_option maxRecDepth 100000 in
theorem eraseD_cut {w : World} {p B n cap : Nat} {s : FS} (h : IsD w p B n cap s) (hs : s.Ok) (k : Nat) (hk : k < n) (ho : s.of = false) (hc : (s.step s.cs).1 ≠ 0) :
    Calls Try.prog 31 #[.pointer (some ⟨p, 0, none⟩), .int .i64 (k : Int)] w fun e w' => e = .returned (.int .i64 (s.erase n (k : Int)).1) ∧ IsD w' p B n cap (s.erase n (k : Int)).2 ∧ Kp [p, B] w w' := by
  have hr := wrongD h k 0
  rw [refE_ok ho n k 0 (by omega) (by omega) (by omega) (by omega)] at hr
  have SD := stepD h hs
  obtain ⟨q1, q2, q3⟩ := s.step_cs (put s.cs (k * 1024) ff) s.cs
  have e9 : s.erase n k = ((s.step s.cs).1, (s.step s.cs).2) := by
    unfold FS.erase
    rw [if_neg (by rw [refE_ok ho n k 0 (by omega) (by omega) (by omega) (by omega)]; simp)]
    exact Prod.ext q1 (q3 hc)
  rw [e9]
  have gb : ((s.step s.cs).1 == 0) = false := by simp [hc]
  generalize s.step s.cs = R at *
  clear h e9 q1 q2 q3 hc hs ho hk
  go_enter Try.func31, Try.ntmps31
  go_wp2_with fail
  refine hr.mono ?_
  rintro e w ⟨rfl, rfl⟩
  clear hr
  go_wp2_with fail
  refine SD.mono ?_
  rintro e z ⟨rfl, Dz, kz⟩
  clear SD
  have HH : Hid _ := Dz
  have KK : Hid _ := kz
  clear Dz kz
  go_wp2_with fail
  go_loopw [6] (fun u wr => u = .int .i64 0 ∧ wr = z) (fun _ _ => 0)
  case atStart => exact ⟨rfl, rfl⟩
  case round =>
    obtain ⟨rfl, rfl⟩ := hrel
    go_wp2_with fail
    go_ret
    exact ⟨rfl, HH.out, KK.out.more (by simp)⟩

set_option linter.unusedSimpArgs false in
set_option maxHeartbeats 4000000 in
set_option maxRecDepth 100000 in
theorem eraseD_go {w : World} {p B n cap : Nat} {s : FS} (h : IsD w p B n cap s) (hs : s.Ok) (k : Nat) (hk : k < n) (ho : s.of = false) (hc : (s.step s.cs).1 = 0) :
    Calls Try.prog 31 #[.pointer (some ⟨p, 0, none⟩), .int .i64 (k : Int)] w fun e w' => e = .returned (.int .i64 (s.erase n (k : Int)).1) ∧ IsD w' p B n cap (s.erase n (k : Int)).2 ∧ Kp [p, B] w w' := by
  have hr := wrongD h k 0
  rw [refE_ok ho n k 0 (by omega) (by omega) (by omega) (by omega)] at hr
  have SD := stepD h hs
  obtain ⟨q1, q2, q3⟩ := s.step_cs (put s.cs (k * 1024) ff) s.cs
  have e9 : s.erase n k = (0, (s.step s.cs).2.at (put s.cs (k * 1024) ff)) := by
    unfold FS.erase
    rw [if_neg (by rw [refE_ok ho n k 0 (by omega) (by omega) (by omega) (by omega)]; simp)]
    exact Prod.ext (q1.trans hc) (q2 hc).1
  rw [e9]
  have q4 : Hid ((s.step s.cs).2 = (s.step s.cs).2.at s.cs) := (q2 hc).2
  rw [hc] at SD
  have hn2 := h.n2
  have hlen := h.len
  have hnp := h.ne
  generalize (s.step s.cs).2 = R at *
  obtain ⟨K, hK⟩ : ∃ K, Hid (K = 256 * k) := ⟨_, rfl⟩
  have wx : IntKind.i64.wrap (256 * (k : Int)) = (K : Int) := by rw [hK.out, IntKind.wrap_i64]; omega
  obtain ⟨N, hN⟩ : ∃ N, Hid (N = 256 * n) := ⟨_, rfl⟩
  have P0 : Hid (put s.cs (k * 1024) (List.replicate (4 * 0) 255) = s.cs) := by show _ = _; simp [put]
  have P1 : Hid (∀ i, i < 256 → put (put s.cs (k * 1024) (List.replicate (4 * i) (255 : Int))) (k * 1024 + i * 4) [255, 255, 255, 255] = put s.cs (k * 1024) (List.replicate (4 * (i + 1)) 255)) := fun i hi => by
    have := put_more s.cs (List.replicate (4 * i) (255 : Int)) [255, 255, 255, 255] (k * 1024) (by rw [List.length_replicate]; simp; omega)
    rw [List.length_replicate] at this
    rw [show k * 1024 + i * 4 = k * 1024 + 4 * i from by omega, this, show 4 * (i + 1) = 4 * i + 4 from by omega, ← List.replicate_append_replicate]
    rfl
  have P2 : Hid (put s.cs (k * 1024) (List.replicate (4 * 256) 255) = put s.cs (k * 1024) ff) := rfl
  have PW : Hid (∀ (z : World) (X : List Int) (i J : Nat), IsD z p B n cap (R.at X) → J = 256 * k + i → i < 256 → ∃ w', (storeVar 32 ⟨B, J * 4, none⟩ (.agg #[.int .u8 255, .int .u8 255, .int .u8 255, .int .u8 255])).run Try.prog z = .ok () w' ∧ IsD w' p B n cap (R.at (put X (k * 1024 + i * 4) [255, 255, 255, 255])) ∧ Kp [B] z w') := fun z X i J hz hJ hi => hz.putWord k i J hJ hk hi 255 255 255 255 (by unfold Oct; decide)
  clear h e9 q1 q2 q3 hc hs ho
  go_enter Try.func31, Try.ntmps31
  go_wp2_with fail
  refine hr.mono ?_
  rintro e w ⟨rfl, rfl⟩
  clear hr
  go_wp2_with fail
  refine SD.mono ?_
  rintro e z ⟨rfl, Dz, kz⟩
  clear SD
  rw [q4.out, ← P0.out] at Dz
  have INI : Hid (IsD z p B n cap (R.at (put s.cs (k * 1024) (List.replicate (4 * 0) 255))) ∧ Kp [p, B] w z) := ⟨Dz, kz.more (by simp)⟩
  clear Dz kz q4 P0
  go_wp2_with fail
  go_loopw [6] (fun u wr => ∃ i : Nat, i ≤ 256 ∧ u = .int .i64 i ∧ IsD wr p B n cap (R.at (put s.cs (k * 1024) (List.replicate (4 * i) 255))) ∧ Kp [p, B] w wr) (fun u _ => 256 - (intOf u).toNat)
  case atStart => exact ⟨0, by omega, rfl, INI.out⟩
  case round =>
    clear INI
    obtain ⟨i, hi6, rfl, Dr, kr⟩ := hrel
    by_cases h : i < 256
    · have g : (i : Int) < 256 := by omega
      obtain ⟨J, hJ⟩ : ∃ J, Hid (J = 256 * k + i) := ⟨_, rfl⟩
      have wy : IntKind.i64.wrap ((K : Int) + (i : Int)) = (J : Int) := by rw [hJ.out, hK.out, IntKind.wrap_i64]; omega
      have gJ : (J : Int) < (N : Int) := by rw [hJ.out, hN.out]; omega
      have kk : wr.cell? ⟨p, 0, none⟩ = some (.slice (some ⟨B, 0, none⟩) N cap) := by rw [hN.out]; exact Dr.c0
      obtain ⟨z2, ST, D2, k2⟩ := PW.out wr _ i J Dr hJ.out h
      rw [P1.out i h] at D2
      have DD : Hid _ := D2
      have KK : Hid (Kp [p, B] w z2) := kr.trans (k2.more (by simp))
      clear D2 k2 Dr kr P1 P2 PW
      go_wp2_with (refine wpList_store_by rfl 32 (.tmp 31) (.tmp 30) rfl _ _ rfl rfl ST ?_)
      exact ⟨⟨i + 1, by omega, by go_num, DD.out, KK.out⟩, by simp [intOf]; omega⟩
    · obtain rfl : i = 256 := by omega
      rw [P2.out] at Dr
      have DD : Hid _ := Dr
      clear Dr P1 P2 PW
      go_wp2_with fail
      go_ret
      exact ⟨rfl, DD.out, kr⟩

theorem eraseD_any {w : World} {p B n cap : Nat} {s : FS} (h : IsD w p B n cap s) (hs : s.Ok) (k : Int) : Calls Try.prog 31 #[.pointer (some ⟨p, 0, none⟩), .int .i64 k] w fun e w' => e = .returned (.int .i64 (s.erase n k).1) ∧ IsD w' p B n cap (s.erase n k).2 ∧ Kp [p, B] w w' := by
  by_cases hb : refE s.of n k 0 ≠ 0
  · exact eraseD_bad h k hb
  · obtain ⟨ho, k', d', rfl, _, hk, _⟩ := refE_zero (Classical.not_not.1 hb)
    by_cases hc : (s.step s.cs).1 = 0
    · exact eraseD_go h hs k' hk ho hc
    · exact eraseD_cut h hs k' hk ho hc
#print axioms eraseD_any
end Go.Proofs.Ytdohjolgcmokhaa
