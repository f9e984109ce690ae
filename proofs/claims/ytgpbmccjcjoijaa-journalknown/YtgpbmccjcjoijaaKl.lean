/-
  The law's flash at first.
  The law's call of a Store or a Restore.
  What the document's journal would be behind a call.
  The law's look at the sectors ahead and behind.
-/
import Derived.Test.YtgpbmccjcjoijaaKk
import Derived.Test.YtgpbmccjcjoijaaFl
namespace Go.Proofs.Ytgpbmccjcjoijaa
open Go.RowKit

theorem write_ff {s : FS} {n k d : Nat} (ho : s.of = false) (ha : s.ar = false) (hk : k < n) (hd : d < 256) (hb : ∀ i, i < 4 → s.cs.getD (k * 1024 + d * 4 + i) 0 = 255) {b0 b1 b2 b3 : Int} (hO : Oct [b0, b1, b2, b3]) : s.write n (k : Int) (d : Int) b0 b1 b2 b3 = (0, { s with cs := put s.cs (k * 1024 + d * 4) [b0, b1, b2, b3], st := s.st + 1 }) := by
  have f0 := hb 0 (by omega)
  rw [Nat.add_zero] at f0
  unfold FS.write
  rw [if_neg (by rw [refE_ok ho n _ _ (by omega) (by omega) (by omega) (by omega)]; simp), Int.toNat_natCast, Int.toNat_natCast, f0, hb 1 (by omega), hb 2 (by omega), hb 3 (by omega), if_pos (fall_ff (hO b0 (by simp)) (hO b1 (by simp)) (hO b2 (by simp)) (hO b3 (by simp))), FS.step_free ha]
theorem fsok (cs : List Int) (st : Int) (h0 : 0 ≤ st) (h1 : st < 100) : FS.Ok ⟨cs, st, false, 0, false⟩ := ⟨h0, by show st < _; omega, by show (0 : Int) ≤ 0; decide, by show (0 : Int) < 9223372036854775808; decide⟩
/-- A flash with something in its first and its last sector. -/
def begC (count : Nat) : List Int := put (put (List.replicate (1024 * (count + 2)) 255) 36 [1, 2, 3, 4]) ((count + 1) * 1024) [5, 6, 7, 8]
def begS (count : Nat) : FS := ⟨begC count, 2, false, 0, false⟩
theorem ff_getD (n i : Nat) (h : i < n) : (List.replicate n (255 : Int)).getD i 0 = 255 := by
  rw [List.getD_eq_getElem?_getD, List.getElem?_eq_getElem (by simpa using h), List.getElem_replicate]; rfl
theorem beg1 (count : Nat) : (newS (count + 2)).write (count + 2) 0 9 1 2 3 4 = (0, ⟨put (List.replicate (1024 * (count + 2)) 255) 36 [1, 2, 3, 4], 1, false, 0, false⟩) := by
  have := write_ff (s := newS (count + 2)) (n := count + 2) (k := 0) (d := 9) rfl rfl (by omega) (by omega) (fun i hi => ff_getD _ _ (by omega)) (b0 := 1) (b1 := 2) (b2 := 3) (b3 := 4) (fun x hx => by simp at hx; rcases hx with rfl | rfl | rfl | rfl <;> decide)
  exact this
set_option maxRecDepth 100000 in
theorem beg2 (count : Nat) : (⟨put (List.replicate (1024 * (count + 2)) 255) 36 [1, 2, 3, 4], 1, false, 0, false⟩ : FS).write (count + 2) ((count : Int) + 1) 0 5 6 7 8 = (0, begS count) := by
  have := write_ff (s := ⟨put (List.replicate (1024 * (count + 2)) 255) 36 [1, 2, 3, 4], 1, false, 0, false⟩) (n := count + 2) (k := count + 1) (d := 0) rfl rfl (by omega) (by omega) (fun i hi => by
    show (put (List.replicate (1024 * (count + 2)) (255 : Int)) 36 [1, 2, 3, 4]).getD _ 0 = 255
    rw [put_getD _ _ _ _ (by simp; omega), if_neg (by simp; omega)]
    exact ff_getD _ _ (by omega)) (b0 := 5) (b1 := 6) (b2 := 7) (b3 := 8) (fun x hx => by simp at hx; rcases hx with rfl | rfl | rfl | rfl <;> decide)
  rw [show ((count + 1 : Nat) : Int) = (count : Int) + 1 by omega, show (count + 1) * 1024 + 0 * 4 = (count + 1) * 1024 by omega] at this
  unfold begS begC
  exact this

set_option linter.unusedSimpArgs false in
set_option maxHeartbeats 4000000 in
set_option maxRecDepth 100000 in
theorem begun_any (count : Nat) (hc : count ≤ 8) (w : World) :
    Calls Try.prog 10 #[.int .i64 (count : Int)] w fun e w' => (∃ p B, e = .returned (.pointer (some ⟨p, 0, none⟩)) ∧ w.heap.size ≤ p ∧ w.heap.size ≤ B ∧ IsS w' p B (count + 2) (count + 2) (begS count)) ∧ Below w.heap.size w w' := by
  have NW := new_ok (count + 2) (by omega) (by omega) w
  rw [show ((count + 2 : Nat) : Int) = (count : Int) + 2 by omega] at NW
  have hc' : (count : Int) ≤ 8 := by omega
  have hc0 : (0 : Int) ≤ (count : Int) := by omega
  go_enter Try.func10, Try.ntmps10
  go_wp2_with fail
  with_reducible refine NW.mono ?_
  rintro e U ⟨⟨p, B, rfl, hp, hB, hF⟩, hb⟩
  clear NW
  have W1 := write_any hF (fsok _ 0 (by decide) (by decide)) 0 9 1 2 3 4 (fun x hx => by simp at hx; rcases hx with rfl | rfl | rfl | rfl <;> decide)
  rw [beg1] at W1
  have HB : Hid (Below w.heap.size w U) := hb
  have HP : Hid (w.heap.size ≤ p ∧ w.heap.size ≤ B) := ⟨hp, hB⟩
  clear hF hb hp hB
  go_wp2_with fail
  with_reducible refine W1.mono ?_
  rintro e V ⟨rfl, hF, hK⟩
  clear W1
  have W2 := write_any hF (fsok _ 1 (by decide) (by decide)) ((count : Int) + 1) 0 5 6 7 8 (fun x hx => by simp at hx; rcases hx with rfl | rfl | rfl | rfl <;> decide)
  rw [beg2] at W2
  have HK : Hid (Kp [p, B] U V) := hK
  clear hF hK
  go_wp2_with fail
  with_reducible refine W2.mono ?_
  rintro e Y ⟨rfl, hF, hK⟩
  clear W2
  have HF : Hid (IsS Y p B (count + 2) (count + 2) (begS count)) := hF
  have HY : Hid (Below w.heap.size w Y) := (HK.out.trans hK).below HB.out HB.out.size (fun i hi => by simp at hi; rcases hi with rfl | rfl; exact HP.out.1; exact HP.out.2)
  clear hF hK
  go_wp2_with fail
  go_ret
  exact ⟨⟨p, B, rfl, HP.out.1, HP.out.2, HF.out⟩, HY.out⟩
#print axioms begun_any
end Go.Proofs.Ytgpbmccjcjoijaa
namespace Go.Proofs.Ytgpbmccjcjoijaa
open Go.RowKit

/-- A call of a Store or a Restore. -/
def doesJ (n first k : Nat) (j : JS) (x : Opx) (s : FS) : Int × JS × FS :=
  if x.kind % 6 = 3 then (if 16 ≤ x.grp then (62, j, s) else restoreJ n first k j x.grp.toNat (j.all.getD x.grp.toNat gp0) s) else storeJ n first k j x.grp x.all s
theorem Opx.all_len (x : Opx) (h : x.Ok) : x.all.length ≤ 25000 := by
  have := h.len
  have := h.m0
  unfold Opx.all
  rw [List.length_append, List.length_replicate]
  omega

set_option linter.unusedSimpArgs false in
set_option maxHeartbeats 8000000 in
set_option maxRecDepth 100000 in
theorem does_any {w : World} {p B n cap : Nat} {s : FS} (hF : IsS w p B n cap s) (m : Nat) (hm : s.Le m) (hm2 : m ≤ 700000000) {q first k : Nat} {j : JS} {S : List Nat} (hJ : IsJ w S q p first k j) (hOk : j.Ok k) (hqp : q ≠ p) (hqB : q ≠ B) (hk : 1 ≤ k) (hk2 : k ≤ 1000) (hfk : first + k + k ≤ n) (hpS : p ∈ S) (hBS : B ∈ S) (hqS : q ∈ S) (hS : ∀ x ∈ S, x < w.heap.size) (x : Opx) (hx : x.Ok) (a : Option Addr) (l cap2 : Nat) (hr : Row w a l x.bs) :
    Calls Try.prog 25 #[.pointer (some ⟨q, 0, none⟩), .agg #[.int .u8 x.kind, .int .u8 x.grp, .slice a l cap2, .int .u16 x.more]] w fun e w' => KeepPost w p B n cap q first k S (doesJ n first k j x s) e w' := by
  have hlt := hF.lt
  have hq : q < w.heap.size := by obtain ⟨_, h, _⟩ := hJ; exact lt_of_heap h
  have bX : Below w.heap.size w (w.alloc (.cells #[.int .u8 x.kind, .int .u8 x.grp, .slice a l cap2, .int .u16 x.more] 36)) := Below.al (Below.refl _ _) _
  have hc : (w.alloc (.cells #[.int .u8 x.kind, .int .u8 x.grp, .slice a l cap2, .int .u16 x.more] 36)).heap[w.heap.size]? = some (.cells #[.int .u8 x.kind, .int .u8 x.grp, .slice a l cap2, .int .u16 x.more] 36 (0, 0)) := heap_alloc_new w _
  have x0 : (w.alloc (.cells #[.int .u8 x.kind, .int .u8 x.grp, .slice a l cap2, .int .u16 x.more] 36)).cell? ⟨w.heap.size, 0, none⟩ = some (.int .u8 x.kind) := by rw [cell_of_row _ _ _ _ _ _ hc]; rfl
  have x1 : (w.alloc (.cells #[.int .u8 x.kind, .int .u8 x.grp, .slice a l cap2, .int .u16 x.more] 36)).cell? ⟨w.heap.size, 1, none⟩ = some (.int .u8 x.grp) := by rw [cell_of_row _ _ _ _ _ _ hc]; rfl
  have x2 : (w.alloc (.cells #[.int .u8 x.kind, .int .u8 x.grp, .slice a l cap2, .int .u16 x.more] 36)).cell? ⟨w.heap.size, 2, none⟩ = some (.slice a l cap2) := by rw [cell_of_row _ _ _ _ _ _ hc]; rfl
  have x3 : (w.alloc (.cells #[.int .u8 x.kind, .int .u8 x.grp, .slice a l cap2, .int .u16 x.more] 36)).cell? ⟨w.heap.size, 3, none⟩ = some (.int .u16 x.more) := by rw [cell_of_row _ _ _ _ _ _ hc]; rfl
  have HFX : Hid (IsS (w.alloc (.cells #[.int .u8 x.kind, .int .u8 x.grp, .slice a l cap2, .int .u16 x.more] 36)) p B n cap s) := hF.next bX
  have HJX : Hid (IsJ (w.alloc (.cells #[.int .u8 x.kind, .int .u8 x.grp, .slice a l cap2, .int .u16 x.more] 36)) S q p first k j) := by
    obtain ⟨ss, h, hI⟩ := hJ
    exact ⟨ss, (bX.block q hq).trans h, hI.next bX⟩
  have HKX : Hid (Kp [p, B, q] w (w.alloc (.cells #[.int .u8 x.kind, .int .u8 x.grp, .slice a l cap2, .int .u16 x.more] 36))) := (Kp.refl _ _).al _
  have HRX : Hid (Row (w.alloc (.cells #[.int .u8 x.kind, .int .u8 x.grp, .slice a l cap2, .int .u16 x.more] 36)) a l x.bs) := hr.next bX
  have HSX : Hid (∀ y ∈ S, y < (w.alloc (.cells #[.int .u8 x.kind, .int .u8 x.grp, .slice a l cap2, .int .u16 x.more] 36)).heap.size) := fun y hy => by have := hS y hy; rw [World.size_alloc]; omega
  have k0 := hx.k0
  have g0 := hx.g0
  obtain ⟨R, hR⟩ : ∃ R, Hid (doesJ n first k j x s = R) := ⟨_, rfl⟩
  rw [hR.out]
  have AL := x.all_len hx
  clear hF hJ hr hc bX
  by_cases h3 : x.kind % 6 = 3
  · have h3' : x.kind.tmod 6 = 3 := by rw [Int.tmod_eq_emod_of_nonneg k0.1]; exact h3
    by_cases hg : 16 ≤ x.grp
    · have RB := restore_big (w := (w.alloc (.cells #[.int .u8 x.kind, .int .u8 x.grp, .slice a l cap2, .int .u16 x.more] 36))) q x.grp hg
      have HFIN : Hid (KeepPost w p B n cap q first k S R (.returned (.int .i64 62)) (w.alloc (.cells #[.int .u8 x.kind, .int .u8 x.grp, .slice a l cap2, .int .u16 x.more] 36))) := by
        rw [← hR.out]; unfold doesJ; rw [if_pos h3, if_pos hg]; exact ⟨rfl, HFX.out, HJX.out, HKX.out⟩
      go_enter Try.func25, Try.ntmps25
      go_wp2_with fail
      with_reducible refine RB.mono ?_
      rintro e z ⟨rfl, rfl⟩
      clear RB
      go_wp2_with fail
      go_ret
      exact HFIN.out
    · obtain ⟨G, hG⟩ := Int.eq_ofNat_of_zero_le g0.1
      have hgi : j.all[G]? = some (j.all.getD G gp0) := by
        obtain ⟨ss, _, hI⟩ := HJX.out
        have h16 := hI.n1
        rw [List.getD_eq_getElem?_getD, List.getElem?_eq_getElem (show G < j.all.length by omega)]; rfl
      have RA := restore_any HFX.out m hm hm2 HJX.out hOk hqp hqB hk hfk hpS hBS hqS G _ hgi
      have E1 : restoreJ n first k j G (j.all.getD G gp0) s = R := by
        rw [← hR.out]; unfold doesJ; rw [if_pos h3, if_neg hg, hG]; rfl
      rw [E1, ← hG] at RA
      clear E1 hgi hG
      go_enter Try.func25, Try.ntmps25
      go_wp2_with fail
      with_reducible refine RA.mono ?_
      rintro e Y ⟨rfl, yF, yJ, yK⟩
      have HFIN : Hid (KeepPost w p B n cap q first k S R (.returned (.int .i64 R.1)) Y) := ⟨rfl, yF, yJ, HKX.out.trans yK⟩
      clear yF yJ yK RA
      go_wp2_with fail
      go_ret
      exact HFIN.out
  · have h3' : ¬ x.kind.tmod 6 = 3 := by rw [Int.tmod_eq_emod_of_nonneg k0.1]; exact h3
    have HR3 : Hid (storeJ n first k j x.grp x.all s = R) := by show _ = R; rw [← hR.out]; unfold doesJ; rw [if_neg h3]
    go_enter Try.func25, Try.ntmps25
    go_wp2_with fail
    generalize (w.alloc (.cells #[.int .u8 x.kind, .int .u8 x.grp, .slice a l cap2, .int .u16 x.more] 36)) = X at *
    have BY := opbytes_any x hx a l cap2 (HRX.out.drew)
    have nz : w.heap.size ∉ [p, B, q] := by simp; omega
    refine wp_region_held_drew (S := fun y => y.cell? ⟨w.heap.size, 0, none⟩ = some (.int .u8 x.kind) ∧ y.cell? ⟨w.heap.size, 1, none⟩ = some (.int .u8 x.grp) ∧ y.cell? ⟨w.heap.size, 2, none⟩ = some (.slice a l cap2) ∧ y.cell? ⟨w.heap.size, 3, none⟩ = some (.int .u16 x.more)) (by kernel_rfl) (⟨x0, x1, x2, x3⟩) (fun hHeld => ?_)
    refine wpAnyH_take (i := 0) (v := (.pointer (some ⟨q, 0, none⟩))) rfl (by kernel_rfl) (by kernel_rfl) (by kernel_rfl) (fun _ _ _ h => h) (Or.inl ⟨by rfl, ?_⟩) (by assumption) ?_
    · intro w9 hSw
      try dsimp only at hSw
      go_simp
      all_goals try decide
      all_goals try assumption
      all_goals try omega
    try simp only [Act.put, List.getElem_toArray, List.getElem_cons_succ, List.getElem_cons_zero, List.setIfInBounds_toArray, List.set_cons_zero, List.set_cons_succ]
    refine wpAnyH_take (i := 1) (v := (.pointer (some ⟨w.heap.size, 1, none⟩))) rfl (by kernel_rfl) (by kernel_rfl) (by kernel_rfl) (fun _ _ _ h => h) (Or.inl ⟨by rfl, ?_⟩) (by assumption) ?_
    · intro w9 hSw
      try dsimp only at hSw
      go_simp
      all_goals try decide
      all_goals try assumption
      all_goals try omega
    try simp only [Act.put, List.getElem_toArray, List.getElem_cons_succ, List.getElem_cons_zero, List.setIfInBounds_toArray, List.set_cons_zero, List.set_cons_succ]
    refine wpAnyH_take (i := 2) (v := (.int .u8 x.grp)) rfl (by kernel_rfl) (by kernel_rfl) (by kernel_rfl) (fun _ _ _ h => h) (Or.inl ⟨by rfl, ?_⟩) (by assumption) ?_
    · intro w9 hSw
      try dsimp only at hSw
      obtain ⟨hS0, hS1, hS2, hS3⟩ := hSw
      go_simp
    try simp only [Act.put, List.getElem_toArray, List.getElem_cons_succ, List.getElem_cons_zero, List.setIfInBounds_toArray, List.set_cons_zero, List.set_cons_succ]
    refine wpAnyH_take (i := 3) (v := (.agg #[.int .u8 x.kind, .int .u8 x.grp, .slice a l cap2, .int .u16 x.more])) rfl (by kernel_rfl) (by kernel_rfl) (by kernel_rfl) (fun _ _ _ h => h) (Or.inl ⟨by rfl, ?_⟩) (by assumption) ?_
    · intro w9 hSw
      try dsimp only at hSw
      obtain ⟨hS0, hS1, hS2, hS3⟩ := hSw
      go_simp
    try simp only [Act.put, List.getElem_toArray, List.getElem_cons_succ, List.getElem_cons_zero, List.setIfInBounds_toArray, List.set_cons_zero, List.set_cons_succ]
    refine wpAnyH_ready (rs := [4]) (by kernel_rfl) (by simp) ?_
    refine AllReadyH.cons rfl (fun K' hK => ?_) AllReadyH.nil
    rw [if_pos (by rfl)]
    simp only [List.getElem_toArray, List.getElem_cons_succ, List.getElem_cons_zero]
    go_wp2_with fail
    refine (BY).mono ?_
    rintro e U ⟨⟨a', c', rfl, hT⟩, hbU⟩
    have KU : Kp [p, B, q] X U := ((Kp.refl _ _).drew).trans (Kp.of hbU)
    have KU0 : Kp [] X U := ((Kp.refl _ _).drew).trans (Kp.of hbU)
    have uF := HFX.out.kp KU0 (by simp) (by simp)
    have uJ : IsJ U S q p first k j := by
      obtain ⟨ss, h, hI⟩ := HJX.out
      exact ⟨ss, (KU0.block q (lt_of_heap h) (by simp)).trans h, hI.kp KU0 (by simp)⟩
    have uS : ∀ y ∈ S, y < U.heap.size := fun y hy => Nat.lt_of_lt_of_le (HSX.out y hy) KU0.size
    have ST := store_any uF m hm hm2 uJ hOk hqp hqB hk hk2 hfk hpS hBS hqS uS x.grp g0.1 x.all a' x.all.length c' hT.row (by omega) (fun hp b off e hmem => by
      have h1 := HSX.out b hmem
      obtain ⟨g9, e9, h2, _⟩ := hT.own hp
      rw [e9] at e
      cases e
      have h3 : X.drew.heap.size = X.heap.size := rfl
      omega)
    rw [HR3.out] at ST
    clear uF uJ uS hT hbU BY
    try go_wp2_with fail
    refine hK.out _ _ (⟨KU.cell x0 nz, KU.cell x1 nz, KU.cell x2 nz, KU.cell x3 nz⟩) (fun hHeld => ?_)
    clear hK K'
    try simp only [Act.put, List.getElem_toArray, List.getElem_cons_succ, List.getElem_cons_zero, List.setIfInBounds_toArray, List.set_cons_zero, List.set_cons_succ]
    refine wpAnyH_ready (rs := [5]) (by kernel_rfl) (by simp) ?_
    refine AllReadyH.cons rfl (fun K' hK => ?_) AllReadyH.nil
    rw [if_pos (by rfl)]
    simp only [List.getElem_toArray, List.getElem_cons_succ, List.getElem_cons_zero]
    go_wp2_with fail
    refine (ST).mono ?_
    rintro e Y ⟨rfl, yF, yJ, yK⟩
    have KY : Kp [p, B, q] X Y := KU.trans yK
    have HFIN : Hid (KeepPost w p B n cap q first k S R (.returned (.int .i64 R.1)) Y) := ⟨rfl, yF, yJ, HKX.out.trans KY⟩
    clear yF yJ yK
    try go_wp2_with fail
    refine hK.out _ _ (⟨KY.cell x0 nz, KY.cell x1 nz, KY.cell x2 nz, KY.cell x3 nz⟩) (fun hHeld => ?_)
    clear hK K'
    try simp only [Act.put, List.getElem_toArray, List.getElem_cons_succ, List.getElem_cons_zero, List.setIfInBounds_toArray, List.set_cons_zero, List.set_cons_succ]
    refine wpAnyH_take (i := 6) (v := (.int .i64 R.1)) rfl (by kernel_rfl) (by kernel_rfl) (by kernel_rfl) (fun _ _ _ h => h) (Or.inl ⟨by rfl, ?_⟩) (by assumption) ?_
    · intro w9 hSw
      try dsimp only at hSw
      go_simp
      all_goals try decide
      all_goals try assumption
      all_goals try omega
    try simp only [Act.put, List.getElem_toArray, List.getElem_cons_succ, List.getElem_cons_zero, List.setIfInBounds_toArray, List.set_cons_zero, List.set_cons_succ]
    refine wpAnyH_done (by kernel_rfl) ?_ _
    clear x0 x1 x2 x3
    go_wp2_with fail
    go_ret
    exact HFIN.out
#print axioms does_any
end Go.Proofs.Ytgpbmccjcjoijaa
namespace Go.Proofs.Ytgpbmccjcjoijaa
open Go.RowKit

/-- The document's call of a Store or a Restore. -/
def doesM (count : Nat) (all : List Gp) (x : Opx) : Int × List Gp :=
  if x.kind % 6 = 3 then (if 16 ≤ x.grp then (62, all) else mRestore all x.grp.toNat (all.getD x.grp.toNat gp0)) else mStore (count / 2) all x.grp x.all
def WouldPost (w : World) (count : Nat) (M : Int × List Gp) (e : Ending) (w' : World) : Prop :=
  ∃ d db, e = .returned (.tuple #[.pointer (some ⟨d, 0, none⟩), .int .i64 M.1]) ∧ w.heap.size ≤ d ∧ w.heap.size ≤ db ∧ IsM w' d db count M.2 ∧ Kp [] w w'

set_option linter.unusedSimpArgs false in
set_option maxHeartbeats 8000000 in
set_option maxRecDepth 100000 in
theorem would_any {w : World} {d db count : Nat} {all : List Gp} (hM : IsM w d db count all) (hl : ∀ g ∈ all, g.bs.length ≤ 4096) (hc : count ≤ 1000) (hc2 : 2 ≤ count) (x : Opx) (hx : x.Ok) (a : Option Addr) (l cap2 : Nat) (hr : Row w a l x.bs) :
    Calls Try.prog 24 #[.pointer (some ⟨d, 0, none⟩), .agg #[.int .u8 x.kind, .int .u8 x.grp, .slice a l cap2, .int .u16 x.more]] w fun e w' => WouldPost w count (doesM count all x) e w' := by
  have bX : Below w.heap.size w (w.alloc (.cells #[.int .u8 x.kind, .int .u8 x.grp, .slice a l cap2, .int .u16 x.more] 36)) := Below.al (Below.refl _ _) _
  have hcX : (w.alloc (.cells #[.int .u8 x.kind, .int .u8 x.grp, .slice a l cap2, .int .u16 x.more] 36)).heap[w.heap.size]? = some (.cells #[.int .u8 x.kind, .int .u8 x.grp, .slice a l cap2, .int .u16 x.more] 36 (0, 0)) := heap_alloc_new w _
  have x0 : (w.alloc (.cells #[.int .u8 x.kind, .int .u8 x.grp, .slice a l cap2, .int .u16 x.more] 36)).cell? ⟨w.heap.size, 0, none⟩ = some (.int .u8 x.kind) := by rw [cell_of_row _ _ _ _ _ _ hcX]; rfl
  have x1 : (w.alloc (.cells #[.int .u8 x.kind, .int .u8 x.grp, .slice a l cap2, .int .u16 x.more] 36)).cell? ⟨w.heap.size, 1, none⟩ = some (.int .u8 x.grp) := by rw [cell_of_row _ _ _ _ _ _ hcX]; rfl
  have x2 : (w.alloc (.cells #[.int .u8 x.kind, .int .u8 x.grp, .slice a l cap2, .int .u16 x.more] 36)).cell? ⟨w.heap.size, 2, none⟩ = some (.slice a l cap2) := by rw [cell_of_row _ _ _ _ _ _ hcX]; rfl
  have x3 : (w.alloc (.cells #[.int .u8 x.kind, .int .u8 x.grp, .slice a l cap2, .int .u16 x.more] 36)).cell? ⟨w.heap.size, 3, none⟩ = some (.int .u16 x.more) := by rw [cell_of_row _ _ _ _ _ _ hcX]; rfl
  have MX : IsM (w.alloc (.cells #[.int .u8 x.kind, .int .u8 x.grp, .slice a l cap2, .int .u16 x.more] 36)) d db count all := hM.kp (S := []) ((Kp.refl _ _).al _) (by simp) (by simp)
  have h16 := hM.len
  have CP := rcopy_any MX
  have HZ : Hid ((w.alloc (.cells #[.int .u8 x.kind, .int .u8 x.grp, .slice a l cap2, .int .u16 x.more] 36)).heap.size = w.heap.size + 1) := World.size_alloc _ _
  have HK : Hid (Kp [] w (w.alloc (.cells #[.int .u8 x.kind, .int .u8 x.grp, .slice a l cap2, .int .u16 x.more] 36))) := (Kp.refl _ _).al _
  have HRX : Hid (Row (w.alloc (.cells #[.int .u8 x.kind, .int .u8 x.grp, .slice a l cap2, .int .u16 x.more] 36)) a l x.bs) := hr.next bX
  have k0 := hx.k0
  have g0 := hx.g0
  obtain ⟨R, hR⟩ : ∃ R, Hid (doesM count all x = R) := ⟨_, rfl⟩
  rw [hR.out]
  have HL : Hid (∀ g ∈ all, g.bs.length ≤ 4096) := hl
  clear hM hr hcX bX MX hl
  go_enter Try.func24, Try.ntmps24
  go_wp2_with fail
  rw [HZ.out] at CP
  with_reducible refine CP.mono ?_
  rintro e Z ⟨rfl, hMZ, hKZ⟩
  clear CP
  have HMZ : Hid (IsM Z (w.heap.size + 1 + 1) (w.heap.size + 1) count all) := hMZ
  have x0 := hKZ.cell x0 (by simp)
  have x1 := hKZ.cell x1 (by simp)
  have x2 := hKZ.cell x2 (by simp)
  have x3 := hKZ.cell x3 (by simp)
  have HRZ : Hid (Row Z a l x.bs) := HRX.out.kp' hKZ (by simp)
  have HKZ : Hid (Kp [] w Z) := HK.out.trans hKZ
  have HZZ : Hid (w.heap.size + 1 < Z.heap.size) := lt_of_heap hMZ.row
  have HPOST : Hid (∀ Y, IsM Y (w.heap.size + 1 + 1) (w.heap.size + 1) count R.2 → Kp [w.heap.size + 1] Z Y → WouldPost w count R (.returned (.tuple #[.pointer (some ⟨w.heap.size + 1 + 1, 0, none⟩), .int .i64 R.1])) Y) := fun Y h1 h2 => ⟨_, _, rfl, by omega, by omega, h1, HKZ.out.fresh h2 (fun i hi => by simp at hi; subst hi; exact .inr (by omega))⟩
  clear hMZ hKZ HRX
  by_cases h3 : x.kind % 6 = 3
  · have h3' : x.kind.tmod 6 = 3 := by rw [Int.tmod_eq_emod_of_nonneg k0.1]; exact h3
    by_cases hg : 16 ≤ x.grp
    · have RB := rrestore_big (w := Z) (w.heap.size + 1 + 1) x.grp hg
      have E1 : R = (62, all) := by rw [← hR.out]; unfold doesM; rw [if_pos h3, if_pos hg]
      have HFIN := HPOST.out Z (by rw [E1]; exact HMZ.out) (Kp.refl _ _)
      have HFIN' : Hid (WouldPost w count R (.returned (.tuple #[.pointer (some ⟨w.heap.size + 1 + 1, 0, none⟩), .int .i64 62])) Z) := by
        have e : R.1 = 62 := by rw [E1]
        rw [e] at HFIN; exact HFIN
      clear HFIN E1
      go_wp2_with fail
      with_reducible refine RB.mono ?_
      rintro e y ⟨rfl, rfl⟩
      clear RB
      go_wp2_with fail
      go_ret2
      exact HFIN'.out
    · obtain ⟨G, hG⟩ := Int.eq_ofNat_of_zero_le g0.1
      have hgi : all[G]? = some (all.getD G gp0) := by
        rw [List.getD_eq_getElem?_getD, List.getElem?_eq_getElem (show G < all.length by omega)]; rfl
      have RA := rrestore_any HMZ.out G _ hgi
      have E1 : mRestore all G (all.getD G gp0) = R := by
        rw [← hR.out]; unfold doesM; rw [if_pos h3, if_neg hg, hG]; rfl
      rw [E1, ← hG] at RA
      clear E1 hgi hG
      go_wp2_with fail
      with_reducible refine RA.mono ?_
      rintro e Y ⟨rfl, yM, yK⟩
      have HFIN : Hid (WouldPost w count R (.returned (.tuple #[.pointer (some ⟨w.heap.size + 1 + 1, 0, none⟩), .int .i64 R.1])) Y) := HPOST.out Y yM yK
      clear yM yK RA
      go_wp2_with fail
      go_ret2
      exact HFIN.out
  · have h3' : ¬ x.kind.tmod 6 = 3 := by rw [Int.tmod_eq_emod_of_nonneg k0.1]; exact h3
    have HR3 : Hid (mStore (count / 2) all x.grp x.all = R) := by show _ = R; rw [← hR.out]; unfold doesM; rw [if_neg h3]
    have BY := opbytes_any x hx a l cap2 (HRZ.out.drew)
    go_wp2_with fail
    have nz : w.heap.size ∉ [w.heap.size + 1] := by simp
    refine wp_region_held_drew (S := fun y => y.cell? ⟨w.heap.size, 0, none⟩ = some (.int .u8 x.kind) ∧ y.cell? ⟨w.heap.size, 1, none⟩ = some (.int .u8 x.grp) ∧ y.cell? ⟨w.heap.size, 2, none⟩ = some (.slice a l cap2) ∧ y.cell? ⟨w.heap.size, 3, none⟩ = some (.int .u16 x.more)) (by kernel_rfl) (⟨x0, x1, x2, x3⟩) (fun hHeld => ?_)
    refine wpAnyH_take (i := 0) (v := (.pointer (some ⟨w.heap.size + 1 + 1, 0, none⟩))) rfl (by kernel_rfl) (by kernel_rfl) (by kernel_rfl) (fun _ _ _ h => h) (Or.inl ⟨by rfl, ?_⟩) (by assumption) ?_
    · intro w9 hSw
      try dsimp only at hSw
      go_simp
      all_goals try decide
      all_goals try assumption
      all_goals try omega
    try simp only [Act.put, List.getElem_toArray, List.getElem_cons_succ, List.getElem_cons_zero, List.setIfInBounds_toArray, List.set_cons_zero, List.set_cons_succ]
    refine wpAnyH_take (i := 1) (v := (.pointer (some ⟨w.heap.size + 1 + 1, 0, none⟩))) rfl (by kernel_rfl) (by kernel_rfl) (by kernel_rfl) (fun _ _ _ h => h) (Or.inl ⟨by rfl, ?_⟩) (by assumption) ?_
    · intro w9 hSw
      try dsimp only at hSw
      go_simp
      all_goals try decide
      all_goals try assumption
      all_goals try omega
    try simp only [Act.put, List.getElem_toArray, List.getElem_cons_succ, List.getElem_cons_zero, List.setIfInBounds_toArray, List.set_cons_zero, List.set_cons_succ]
    refine wpAnyH_take (i := 2) (v := (.pointer (some ⟨w.heap.size, 1, none⟩))) rfl (by kernel_rfl) (by kernel_rfl) (by kernel_rfl) (fun _ _ _ h => h) (Or.inl ⟨by rfl, ?_⟩) (by assumption) ?_
    · intro w9 hSw
      try dsimp only at hSw
      go_simp
      all_goals try decide
      all_goals try assumption
      all_goals try omega
    try simp only [Act.put, List.getElem_toArray, List.getElem_cons_succ, List.getElem_cons_zero, List.setIfInBounds_toArray, List.set_cons_zero, List.set_cons_succ]
    refine wpAnyH_take (i := 3) (v := (.int .u8 x.grp)) rfl (by kernel_rfl) (by kernel_rfl) (by kernel_rfl) (fun _ _ _ h => h) (Or.inl ⟨by rfl, ?_⟩) (by assumption) ?_
    · intro w9 hSw
      try dsimp only at hSw
      obtain ⟨hS0, hS1, hS2, hS3⟩ := hSw
      go_simp
    try simp only [Act.put, List.getElem_toArray, List.getElem_cons_succ, List.getElem_cons_zero, List.setIfInBounds_toArray, List.set_cons_zero, List.set_cons_succ]
    refine wpAnyH_take (i := 4) (v := (.agg #[.int .u8 x.kind, .int .u8 x.grp, .slice a l cap2, .int .u16 x.more])) rfl (by kernel_rfl) (by kernel_rfl) (by kernel_rfl) (fun _ _ _ h => h) (Or.inl ⟨by rfl, ?_⟩) (by assumption) ?_
    · intro w9 hSw
      try dsimp only at hSw
      obtain ⟨hS0, hS1, hS2, hS3⟩ := hSw
      go_simp
    try simp only [Act.put, List.getElem_toArray, List.getElem_cons_succ, List.getElem_cons_zero, List.setIfInBounds_toArray, List.set_cons_zero, List.set_cons_succ]
    refine wpAnyH_ready (rs := [5]) (by kernel_rfl) (by simp) ?_
    refine AllReadyH.cons rfl (fun K' hK => ?_) AllReadyH.nil
    rw [if_pos (by rfl)]
    simp only [List.getElem_toArray, List.getElem_cons_succ, List.getElem_cons_zero]
    go_wp2_with fail
    refine (BY).mono ?_
    rintro e U ⟨⟨a', c', rfl, hT⟩, hbU⟩
    have KU0 : Kp [] Z U := ((Kp.refl _ _).drew).trans (Kp.of hbU)
    have KU : Kp [w.heap.size + 1] Z U := KU0.more (by simp)
    have uM := HMZ.out.kp KU0 (by simp) (by simp)
    have ST := rstore_any uM HL.out hc hc2 x.grp g0.1 x.all a' x.all.length c' hT.row (fun hp b off e hmem => by
      obtain ⟨g9, e9, h2, _⟩ := hT.own hp
      rw [e9] at e
      cases e
      have h3 : Z.drew.heap.size = Z.heap.size := rfl
      have h4 := HZZ.out
      simp at hmem
      omega)
    rw [HR3.out] at ST
    clear uM hT hbU BY
    try go_wp2_with fail
    refine hK.out _ _ (⟨KU.cell x0 nz, KU.cell x1 nz, KU.cell x2 nz, KU.cell x3 nz⟩) (fun hHeld => ?_)
    clear hK K'
    try simp only [Act.put, List.getElem_toArray, List.getElem_cons_succ, List.getElem_cons_zero, List.setIfInBounds_toArray, List.set_cons_zero, List.set_cons_succ]
    refine wpAnyH_ready (rs := [6]) (by kernel_rfl) (by simp) ?_
    refine AllReadyH.cons rfl (fun K' hK => ?_) AllReadyH.nil
    rw [if_pos (by rfl)]
    simp only [List.getElem_toArray, List.getElem_cons_succ, List.getElem_cons_zero]
    go_wp2_with fail
    refine (ST).mono ?_
    rintro e Y ⟨rfl, yM, yK⟩
    have KY : Kp [w.heap.size + 1] Z Y := KU.trans yK
    have HFIN : Hid (WouldPost w count R (.returned (.tuple #[.pointer (some ⟨w.heap.size + 1 + 1, 0, none⟩), .int .i64 R.1])) Y) := HPOST.out Y yM KY
    clear yM yK
    try go_wp2_with fail
    refine hK.out _ _ (⟨KY.cell x0 nz, KY.cell x1 nz, KY.cell x2 nz, KY.cell x3 nz⟩) (fun hHeld => ?_)
    clear hK K'
    try simp only [Act.put, List.getElem_toArray, List.getElem_cons_succ, List.getElem_cons_zero, List.setIfInBounds_toArray, List.set_cons_zero, List.set_cons_succ]
    refine wpAnyH_take (i := 7) (v := (.pointer (some ⟨w.heap.size + 1 + 1, 0, none⟩))) rfl (by kernel_rfl) (by kernel_rfl) (by kernel_rfl) (fun _ _ _ h => h) (Or.inl ⟨by rfl, ?_⟩) (by assumption) ?_
    · intro w9 hSw
      try dsimp only at hSw
      go_simp
      all_goals try decide
      all_goals try assumption
      all_goals try omega
    try simp only [Act.put, List.getElem_toArray, List.getElem_cons_succ, List.getElem_cons_zero, List.setIfInBounds_toArray, List.set_cons_zero, List.set_cons_succ]
    refine wpAnyH_take (i := 8) (v := (.int .i64 R.1)) rfl (by kernel_rfl) (by kernel_rfl) (by kernel_rfl) (fun _ _ _ h => h) (Or.inl ⟨by rfl, ?_⟩) (by assumption) ?_
    · intro w9 hSw
      try dsimp only at hSw
      go_simp
      all_goals try decide
      all_goals try assumption
      all_goals try omega
    try simp only [Act.put, List.getElem_toArray, List.getElem_cons_succ, List.getElem_cons_zero, List.setIfInBounds_toArray, List.set_cons_zero, List.set_cons_succ]
    refine wpAnyH_done (by kernel_rfl) ?_ _
    clear x0 x1 x2 x3
    go_wp2_with fail
    go_ret2
    exact HFIN.out
#print axioms would_any
end Go.Proofs.Ytgpbmccjcjoijaa
namespace Go.Proofs.Ytgpbmccjcjoijaa
open Go.RowKit

def aV (i : Nat) : Int := if 36 ≤ i ∧ i < 40 then (i : Int) - 35 else 255
def bV (i : Nat) : Int := if i < 4 then (i : Int) + 5 else 255
def nV (i : Nat) : Nat := min (i - 36) 4 + min i 4
theorem Told.at {w w' : World} {a : Option Addr} {len cap : Nat} {zs : List Int} (h : Told w w' a len cap zs) (hp : 0 < len) : ∃ g, a = some ⟨g, 0, none⟩ ∧ w.heap.size ≤ g ∧ ∀ i, i < len → w'.cell? ⟨g, i, none⟩ = some (.int .u8 (zs.getD i 0)) := by
  obtain ⟨g, e, hg, _⟩ := h.own hp
  obtain ⟨b, off, e2, hc⟩ := h.row.at_ hp
  rw [e] at e2
  cases e2
  exact ⟨g, e, hg, fun i hi => by have := hc i hi; rwa [Nat.zero_add] at this⟩

set_option linter.unusedSimpArgs false in
set_option maxHeartbeats 8000000 in
set_option maxRecDepth 100000 in
theorem apart_any {w : World} {p B cap count : Nat} {s : FS} (hF : IsS w p B (count + 2) cap s) (ho : s.of = false) (hc : count ≤ 8) (hA : ∀ i, i < 1024 → (sec s.cs 0).getD i 0 = aV i) (hB : ∀ i, i < 1024 → (sec s.cs (count + 1)).getD i 0 = bV i) :
    Calls Try.prog 20 #[.pointer (some ⟨p, 0, none⟩), .int .i64 (count : Int)] w fun e w' => e = .returned (.bool true) ∧ Below w.heap.size w w' := by
  have R1 := read_ok hF 0 (by omega) ho
  have HF : Hid (IsS w p B (count + 2) cap s) := hF
  have HA : Hid (∀ i, i < 1024 → (sec s.cs 0).getD i 0 = aV i) := hA
  have HB : Hid (∀ i, i < 1024 → (sec s.cs (count + 1)).getD i 0 = bV i) := hB
  have hc' : (count : Int) ≤ 8 := by omega
  have hc0 : (0 : Int) ≤ (count : Int) := by omega
  clear hF hA hB
  have R1 : Calls Try.prog 43 #[.pointer (some ⟨p, 0, none⟩), .int .i64 0] w fun e w' => (∃ a c, e = .returned (.tuple #[.slice a 1024 c, .int .i64 0]) ∧ Told w w' a 1024 c (sec s.cs 0)) ∧ Below w.heap.size w w' := R1
  go_enter Try.func20, Try.ntmps20
  go_wp2_with fail
  with_reducible refine R1.mono ?_
  rintro e U ⟨⟨a1, c1, rfl, hT1⟩, hb1⟩
  clear R1
  have R2 := read_ok (HF.out.next hb1) (count + 1) (by omega) ho
  rw [show ((count + 1 : Nat) : Int) = (count : Int) + 1 by omega] at R2
  obtain ⟨g1, rfl, hg1, hcell1⟩ := hT1.at (by omega)
  have HC1 : Hid (∀ i, i < 1024 → U.cell? ⟨g1, i, none⟩ = some (.int .u8 (aV i))) := fun i hi => by rw [hcell1 i hi, HA.out i hi]
  have HB1 : Hid (Below w.heap.size w U) := hb1
  clear hcell1 hT1 hb1 hg1
  go_wp2_with fail
  with_reducible refine R2.mono ?_
  rintro e V ⟨⟨a2, c2, rfl, hT2⟩, hb2⟩
  clear R2
  obtain ⟨g2, rfl, hg2, hcell2⟩ := hT2.at (by omega)
  have HC2 : Hid (∀ i, i < 1024 → V.cell? ⟨g2, i, none⟩ = some (.int .u8 (bV i))) := fun i hi => by rw [hcell2 i hi, HB.out i hi]
  have HC1V : Hid (∀ i, i < 1024 → V.cell? ⟨g1, i, none⟩ = some (.int .u8 (aV i))) := fun i hi => (Kp.of (S := []) hb2).cell (HC1.out i hi) (by simp)
  have HBV : Hid (Below w.heap.size w V) := Below.andThen HB1.out hb2
  clear hcell2 hT2 hb2 hg2 HC1 HB1
  go_wp2_with fail
  go_loopw [9, 10] (fun u v wr => ∃ i : Nat, i ≤ 1024 ∧ v = .int .i64 i ∧ u = .int .i64 (nV i : Nat) ∧ wr = V) (fun _ v _ => 1024 - (intOf v).toNat)
  case atStart => exact ⟨0, by omega, rfl, rfl, rfl⟩
  case round =>
    obtain ⟨i, hi, rfl, rfl, hw⟩ := hrel
    have HW : Hid (wr = V) := hw
    by_cases hlt : i < 1024
    · have g0 : (i : Int) < 1024 := by omega
      have gp : (0 : Int) ≤ i := by omega
      have y1 := HC1V.out i hlt
      have y2 := HC2.out i hlt
      rw [← hw] at y1 y2
      clear hw
      have hn : nV i ≤ 8 := by unfold nV; omega
      by_cases hA4 : 36 ≤ i ∧ i < 40
      · have hB4 : ¬ i < 4 := by omega
        have eA : aV i = (i : Int) - 35 := if_pos hA4
        have eB : bV i = 255 := if_neg hB4
        have nA : ¬ (i : Int) - 35 = 255 := by omega
        have eN : Hid (nV (i + 1) = nV i + 1) := by show nV (i + 1) = _; unfold nV; omega
        rw [eA] at y1
        rw [eB] at y2
        clear eA eB
        go_wp2_with fail
        exact ⟨⟨i + 1, by omega, by go_num, by rw [eN.out]; go_num, HW.out⟩, by simp [intOf]; omega⟩
      · have eA : aV i = 255 := if_neg hA4
        rw [eA] at y1
        by_cases hB4 : i < 4
        · have eB : bV i = (i : Int) + 5 := if_pos hB4
          have nB : ¬ (i : Int) + 5 = 255 := by omega
          have eN : Hid (nV (i + 1) = nV i + 1) := by show nV (i + 1) = _; unfold nV; omega
          rw [eB] at y2
          clear eA eB
          go_wp2_with fail
          exact ⟨⟨i + 1, by omega, by go_num, by rw [eN.out]; go_num, HW.out⟩, by simp [intOf]; omega⟩
        · have eB : bV i = 255 := if_neg hB4
          have eN : Hid (nV (i + 1) = nV i) := by show nV (i + 1) = _; unfold nV; omega
          rw [eB] at y2
          clear eA eB
          go_wp2_with fail
          exact ⟨⟨i + 1, by omega, by go_num, by rw [eN.out], HW.out⟩, by simp [intOf]; omega⟩
    · obtain rfl : i = 1024 := by omega
      have y1 := HC1V.out 36 (by omega)
      have y2 := HC2.out 3 (by omega)
      rw [← hw] at y1 y2
      clear hw
      have e1 : aV 36 = 1 := by decide
      have e2 : bV 3 = 8 := by decide
      have e3 : nV 1024 = 8 := by decide
      rw [e1] at y1
      rw [e2] at y2
      rw [e3]
      clear e1 e2 e3
      go_wp2_with fail
      go_ret
      exact ⟨rfl, by rw [HW.out]; exact HBV.out⟩
#print axioms apart_any
end Go.Proofs.Ytgpbmccjcjoijaa
