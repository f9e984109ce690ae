/-
  The walk of runs.
-/
import Derived.Test.YtdohjolgcmokhaaFr5
namespace Go.Proofs.Ytdohjolgcmokhaa
open Go.RowKit

set_option linter.unusedSimpArgs false in
set_option maxHeartbeats 8000000 in
set_option maxRecDepth 100000 in
theorem runs_any {w : World} {p B n cap : Nat} {s : FS} (h : IsS w p B n cap s) {m : Nat} (hm : s.Le m) (a : Option Addr) (len cp : Nat) (l : List Opv) (hb : m + len ≤ 1000000) (ho : IsOps w a len l) (hS : 0 < len → ∀ b off, a = some ⟨b, off, none⟩ → b ∉ [p, B]) :
    Calls Try.prog 24 #[.pointer (some ⟨p, 0, none⟩), .slice a len cp] w fun e w' => e = .returned (.tuple #[]) ∧ IsS w' p B n cap (s.ops n l) ∧ Kp [p, B] w w' := by
  have hsz := ho.size
  go_enter Try.func24, Try.ntmps24
  go_wp2_with fail
  go_loopw [4] (fun u wr => ∃ i : Nat, i ≤ len ∧ u = .int .i64 i ∧ IsS wr p B n cap (s.ops n (l.take i)) ∧ Kp [p, B] w wr)
    (fun u _ => len - (intOf u).toNat)
  case atStart => exact ⟨0, Nat.zero_le _, rfl, h, Kp.refl _ _⟩
  case round =>
    obtain ⟨i, hi, rfl, hs', hk⟩ := hrel
    by_cases hlt : i < len
    rotate_left
    · obtain rfl : i = len := by omega
      have e : l.take i = l := List.take_of_length_le (by omega)
      rw [e] at hs'
      clear h ho
      go_wp2_with fail
      go_end0
      exact ⟨rfl, hs', hk⟩
    have glt : (i : Int) < (len : Int) := by omega
    obtain ⟨x, hx⟩ : ∃ x, l[i]? = some x := ⟨l[i]'(by omega), List.getElem?_eq_getElem _⟩
    have hok2 : x.Ok := ho.good x (List.mem_of_getElem? hx)
    have hok : (s.ops n (l.take i)).Ok := (FS.Le.ops n (l.take i) s m hm (fun y hy => ho.good y (List.mem_of_mem_take hy))).ok (by rw [List.length_take]; omega)
    obtain ⟨b, off, e, hc⟩ := ho.at_ (by omega)
    have nb := hS (by omega) b off e
    subst e
    obtain ⟨c0, c1, c2, c3, c4, c5, c6⟩ := hc i x hx
    replace c0 := hk.cell c0 nb
    replace c1 := hk.cell c1 nb
    replace c2 := hk.cell c2 nb
    replace c3 := hk.cell c3 nb
    replace c4 := hk.cell c4 nb
    replace c5 := hk.cell c5 nb
    replace c6 := hk.cell c6 nb
    clear hc h hS hm
    have hrr : x.k % 9 = 0 ∨ x.k % 9 = 1 ∨ x.k % 9 = 2 ∨ x.k % 9 = 3 ∨ x.k % 9 = 4 ∨ x.k % 9 = 5 ∨ 6 ≤ x.k % 9 := by omega
    rcases hrr with hrr | hrr | hrr | hrr | hrr | hrr | hrr
    · have RR : (s.ops n (l.take i)).op n x = ((s.ops n (l.take i)).write n x.A x.B x.w0 x.w1 x.w2 x.w3).2 := by unfold FS.op; rw [if_pos (by omega)]
      have R1 : x.k.tmod 9 = 0 := by rw [Int.tmod_eq_emod_of_nonneg hok2.k0]; omega
      have R2 : x.k % 9 = 0 := by omega
      have WR : Hid (Calls Try.prog 21 #[.pointer (some ⟨p, 0, none⟩), .int .i64 x.A, .int .i64 x.B, .agg (w4 x.w0 x.w1 x.w2 x.w3)] wr.drew fun e w' => e = .returned (.int .i64 ((s.ops n (l.take i)).write n x.A x.B x.w0 x.w1 x.w2 x.w3).1) ∧ IsS w' p B n cap ((s.ops n (l.take i)).write n x.A x.B x.w0 x.w1 x.w2 x.w3).2 ∧ Kp [p, B] wr.drew w') := write_any (w := wr.drew) (hs'.keep rfl rfl) hok x.A x.B x.w0 x.w1 x.w2 x.w3 hok2.ow
      have FZ : wr.drew.cell? ⟨b, off + i * 7, none⟩ = some (.int .u8 x.k) ∧ wr.drew.cell? ⟨b, off + i * 7 + 1, none⟩ = some (.int .i64 x.A) ∧ wr.drew.cell? ⟨b, off + i * 7 + 2, none⟩ = some (.int .i64 x.B) ∧ wr.drew.cell? ⟨b, off + i * 7 + 3, none⟩ = some (.int .u8 x.w0) ∧ wr.drew.cell? ⟨b, off + i * 7 + 3 + 1, none⟩ = some (.int .u8 x.w1) ∧ wr.drew.cell? ⟨b, off + i * 7 + 3 + 2, none⟩ = some (.int .u8 x.w2) ∧ wr.drew.cell? ⟨b, off + i * 7 + 3 + 3, none⟩ = some (.int .u8 x.w3) := ⟨c0, c1, c2, c3, c4, c5, c6⟩
      have KZ : Hid (∀ z, Kp [p, B] wr.drew z → z.cell? ⟨b, off + i * 7, none⟩ = some (.int .u8 x.k) ∧ z.cell? ⟨b, off + i * 7 + 1, none⟩ = some (.int .i64 x.A) ∧ z.cell? ⟨b, off + i * 7 + 2, none⟩ = some (.int .i64 x.B) ∧ z.cell? ⟨b, off + i * 7 + 3, none⟩ = some (.int .u8 x.w0) ∧ z.cell? ⟨b, off + i * 7 + 3 + 1, none⟩ = some (.int .u8 x.w1) ∧ z.cell? ⟨b, off + i * 7 + 3 + 2, none⟩ = some (.int .u8 x.w2) ∧ z.cell? ⟨b, off + i * 7 + 3 + 3, none⟩ = some (.int .u8 x.w3)) := fun z kz => ⟨kz.cell c0 nb, kz.cell c1 nb, kz.cell c2 nb, kz.cell c3 nb, kz.cell c4 nb, kz.cell c5 nb, kz.cell c6 nb⟩
      have HS : Hid (IsS wr p B n cap (s.ops n (l.take i))) := hs'
      generalize (s.ops n (l.take i)).write n x.A x.B x.w0 x.w1 x.w2 x.w3 = RV at *
      clear hs' hok hok2 ho c1 c2 c3 c4 c5 c6
      go_wp2_with fail
      refine wp_region_held_drew (S := fun z => z.cell? ⟨b, off + i * 7, none⟩ = some (.int .u8 x.k) ∧ z.cell? ⟨b, off + i * 7 + 1, none⟩ = some (.int .i64 x.A) ∧ z.cell? ⟨b, off + i * 7 + 2, none⟩ = some (.int .i64 x.B) ∧ z.cell? ⟨b, off + i * 7 + 3, none⟩ = some (.int .u8 x.w0) ∧ z.cell? ⟨b, off + i * 7 + 3 + 1, none⟩ = some (.int .u8 x.w1) ∧ z.cell? ⟨b, off + i * 7 + 3 + 2, none⟩ = some (.int .u8 x.w2) ∧ z.cell? ⟨b, off + i * 7 + 3 + 3, none⟩ = some (.int .u8 x.w3)) (by kernel_rfl) (FZ) (fun hHeld => ?_)
      refine wpAnyH_take (i := 0) (v := (.pointer (some ⟨p, 0, none⟩))) rfl (by kernel_rfl) (by kernel_rfl) (by kernel_rfl) (fun _ _ _ h => h) (Or.inl ⟨by rfl, ?_⟩) (by assumption) ?_
      · intro w9 hSw
        try dsimp only at hSw
        go_simp
        all_goals try decide
        all_goals try assumption
      try simp only [Act.put, List.getElem_toArray, List.getElem_cons_succ, List.getElem_cons_zero, List.setIfInBounds_toArray, List.set_cons_zero, List.set_cons_succ]
      refine wpAnyH_take (i := 1) (v := (.slice (some ⟨b, off, none⟩) len cp)) rfl (by kernel_rfl) (by kernel_rfl) (by kernel_rfl) (fun _ _ _ h => h) (Or.inl ⟨by rfl, ?_⟩) (by assumption) ?_
      · intro w9 hSw
        try dsimp only at hSw
        go_simp
        all_goals try decide
        all_goals try assumption
      try simp only [Act.put, List.getElem_toArray, List.getElem_cons_succ, List.getElem_cons_zero, List.setIfInBounds_toArray, List.set_cons_zero, List.set_cons_succ]
      refine wpAnyH_take (i := 2) (v := (.int .i64 (i : Int))) rfl (by kernel_rfl) (by kernel_rfl) (by kernel_rfl) (fun _ _ _ h => h) (Or.inl ⟨by rfl, ?_⟩) (by assumption) ?_
      · intro w9 hSw
        try dsimp only at hSw
        go_simp
        all_goals try decide
        all_goals try assumption
      try simp only [Act.put, List.getElem_toArray, List.getElem_cons_succ, List.getElem_cons_zero, List.setIfInBounds_toArray, List.set_cons_zero, List.set_cons_succ]
      refine wpAnyH_take (i := 3) (v := (.pointer (some ⟨b, off + i * 7, none⟩))) rfl (by kernel_rfl) (by kernel_rfl) (by kernel_rfl) (fun _ _ _ h => h) (Or.inl ⟨by rfl, ?_⟩) (by assumption) ?_
      · intro w9 hSw
        try dsimp only at hSw
        go_simp
        all_goals try decide
        all_goals try assumption
      try simp only [Act.put, List.getElem_toArray, List.getElem_cons_succ, List.getElem_cons_zero, List.setIfInBounds_toArray, List.set_cons_zero, List.set_cons_succ]
      refine wpAnyH_take (i := 4) (v := (.pointer (some ⟨b, off + i * 7 + 1, none⟩))) rfl (by kernel_rfl) (by kernel_rfl) (by kernel_rfl) (fun _ _ _ h => h) (Or.inl ⟨by rfl, ?_⟩) (by assumption) ?_
      · intro w9 hSw
        try dsimp only at hSw
        go_simp
        all_goals try decide
        all_goals try assumption
      try simp only [Act.put, List.getElem_toArray, List.getElem_cons_succ, List.getElem_cons_zero, List.setIfInBounds_toArray, List.set_cons_zero, List.set_cons_succ]
      refine wpAnyH_take (i := 5) (v := (.int .i64 x.A)) rfl (by kernel_rfl) (by kernel_rfl) (by kernel_rfl) (fun _ _ _ h => h) (Or.inl ⟨by rfl, ?_⟩) (by assumption) ?_
      · intro w9 hSw
        try dsimp only at hSw
        go_simp
        all_goals try decide
        all_goals try assumption
      try simp only [Act.put, List.getElem_toArray, List.getElem_cons_succ, List.getElem_cons_zero, List.setIfInBounds_toArray, List.set_cons_zero, List.set_cons_succ]
      refine wpAnyH_take (i := 6) (v := (.slice (some ⟨b, off, none⟩) len cp)) rfl (by kernel_rfl) (by kernel_rfl) (by kernel_rfl) (fun _ _ _ h => h) (Or.inl ⟨by rfl, ?_⟩) (by assumption) ?_
      · intro w9 hSw
        try dsimp only at hSw
        go_simp
        all_goals try decide
        all_goals try assumption
      try simp only [Act.put, List.getElem_toArray, List.getElem_cons_succ, List.getElem_cons_zero, List.setIfInBounds_toArray, List.set_cons_zero, List.set_cons_succ]
      refine wpAnyH_take (i := 7) (v := (.int .i64 (i : Int))) rfl (by kernel_rfl) (by kernel_rfl) (by kernel_rfl) (fun _ _ _ h => h) (Or.inl ⟨by rfl, ?_⟩) (by assumption) ?_
      · intro w9 hSw
        try dsimp only at hSw
        go_simp
        all_goals try decide
        all_goals try assumption
      try simp only [Act.put, List.getElem_toArray, List.getElem_cons_succ, List.getElem_cons_zero, List.setIfInBounds_toArray, List.set_cons_zero, List.set_cons_succ]
      refine wpAnyH_take (i := 8) (v := (.pointer (some ⟨b, off + i * 7, none⟩))) rfl (by kernel_rfl) (by kernel_rfl) (by kernel_rfl) (fun _ _ _ h => h) (Or.inl ⟨by rfl, ?_⟩) (by assumption) ?_
      · intro w9 hSw
        try dsimp only at hSw
        go_simp
        all_goals try decide
        all_goals try assumption
      try simp only [Act.put, List.getElem_toArray, List.getElem_cons_succ, List.getElem_cons_zero, List.setIfInBounds_toArray, List.set_cons_zero, List.set_cons_succ]
      refine wpAnyH_take (i := 9) (v := (.pointer (some ⟨b, off + i * 7 + 2, none⟩))) rfl (by kernel_rfl) (by kernel_rfl) (by kernel_rfl) (fun _ _ _ h => h) (Or.inl ⟨by rfl, ?_⟩) (by assumption) ?_
      · intro w9 hSw
        try dsimp only at hSw
        go_simp
        all_goals try decide
        all_goals try assumption
      try simp only [Act.put, List.getElem_toArray, List.getElem_cons_succ, List.getElem_cons_zero, List.setIfInBounds_toArray, List.set_cons_zero, List.set_cons_succ]
      refine wpAnyH_take (i := 10) (v := (.int .i64 x.B)) rfl (by kernel_rfl) (by kernel_rfl) (by kernel_rfl) (fun _ _ _ h => h) (Or.inl ⟨by rfl, ?_⟩) (by assumption) ?_
      · intro w9 hSw
        try dsimp only at hSw
        go_simp
        all_goals try decide
        all_goals try assumption
      try simp only [Act.put, List.getElem_toArray, List.getElem_cons_succ, List.getElem_cons_zero, List.setIfInBounds_toArray, List.set_cons_zero, List.set_cons_succ]
      refine wpAnyH_take (i := 11) (v := (.slice (some ⟨b, off, none⟩) len cp)) rfl (by kernel_rfl) (by kernel_rfl) (by kernel_rfl) (fun _ _ _ h => h) (Or.inl ⟨by rfl, ?_⟩) (by assumption) ?_
      · intro w9 hSw
        try dsimp only at hSw
        go_simp
        all_goals try decide
        all_goals try assumption
      try simp only [Act.put, List.getElem_toArray, List.getElem_cons_succ, List.getElem_cons_zero, List.setIfInBounds_toArray, List.set_cons_zero, List.set_cons_succ]
      refine wpAnyH_take (i := 12) (v := (.int .i64 (i : Int))) rfl (by kernel_rfl) (by kernel_rfl) (by kernel_rfl) (fun _ _ _ h => h) (Or.inl ⟨by rfl, ?_⟩) (by assumption) ?_
      · intro w9 hSw
        try dsimp only at hSw
        go_simp
        all_goals try decide
        all_goals try assumption
      try simp only [Act.put, List.getElem_toArray, List.getElem_cons_succ, List.getElem_cons_zero, List.setIfInBounds_toArray, List.set_cons_zero, List.set_cons_succ]
      refine wpAnyH_take (i := 13) (v := (.pointer (some ⟨b, off + i * 7, none⟩))) rfl (by kernel_rfl) (by kernel_rfl) (by kernel_rfl) (fun _ _ _ h => h) (Or.inl ⟨by rfl, ?_⟩) (by assumption) ?_
      · intro w9 hSw
        try dsimp only at hSw
        go_simp
        all_goals try decide
        all_goals try assumption
      try simp only [Act.put, List.getElem_toArray, List.getElem_cons_succ, List.getElem_cons_zero, List.setIfInBounds_toArray, List.set_cons_zero, List.set_cons_succ]
      refine wpAnyH_take (i := 14) (v := (.pointer (some ⟨b, off + i * 7 + 3, none⟩))) rfl (by kernel_rfl) (by kernel_rfl) (by kernel_rfl) (fun _ _ _ h => h) (Or.inl ⟨by rfl, ?_⟩) (by assumption) ?_
      · intro w9 hSw
        try dsimp only at hSw
        go_simp
        all_goals try decide
        all_goals try assumption
      try simp only [Act.put, List.getElem_toArray, List.getElem_cons_succ, List.getElem_cons_zero, List.setIfInBounds_toArray, List.set_cons_zero, List.set_cons_succ]
      refine wpAnyH_take (i := 15) (v := (.agg (w4 x.w0 x.w1 x.w2 x.w3))) rfl (by kernel_rfl) (by kernel_rfl) (by kernel_rfl) (fun _ _ _ h => h) (Or.inl ⟨by rfl, ?_⟩) (by assumption) ?_
      · intro w9 hSw
        try dsimp only at hSw
        go_simp
        all_goals try decide
        all_goals try assumption
      try simp only [Act.put, List.getElem_toArray, List.getElem_cons_succ, List.getElem_cons_zero, List.setIfInBounds_toArray, List.set_cons_zero, List.set_cons_succ]
      refine wpAnyH_ready (rs := [16]) (by kernel_rfl) (by simp) ?_
      refine AllReadyH.cons rfl (fun K' hK => ?_) AllReadyH.nil
      rw [if_pos (by rfl)]
      simp only [List.getElem_toArray, List.getElem_cons_succ, List.getElem_cons_zero]
      go_wp2_with fail
      refine (WR.out).mono ?_
      rintro e z ⟨rfl, hz, kz⟩
      try go_wp2_with fail
      refine hK.out _ _ (KZ.out z kz) (fun hHeld => ?_)
      clear hK K'
      try simp only [Act.put, List.getElem_toArray, List.getElem_cons_succ, List.getElem_cons_zero, List.setIfInBounds_toArray, List.set_cons_zero, List.set_cons_succ]
      refine wpAnyH_done (by kernel_rfl) ?_ _
      have KZZ : Kp [p, B] wr z := (Kp.refl _ _).drew.trans kz
      have NX : Hid (IsS z p B n cap (s.ops n (l.take (i + 1)))) := by show IsS _ _ _ _ _ _; rw [FS.ops_next n s l i x hx, RR]; exact hz
      have KK : Kp [p, B] w z := hk.trans KZZ
      go_wp2_with fail
      exact ⟨⟨i + 1, by omega, by go_num, NX.out, KK⟩, by simp [intOf]; omega⟩
    · have RR : (s.ops n (l.take i)).op n x = ((s.ops n (l.take i)).write n x.A x.B x.w0 x.w1 x.w2 x.w3).2 := by unfold FS.op; rw [if_pos (by omega)]
      have R1 : x.k.tmod 9 = 1 := by rw [Int.tmod_eq_emod_of_nonneg hok2.k0]; omega
      have R2 : x.k % 9 = 1 := by omega
      have WR : Hid (Calls Try.prog 21 #[.pointer (some ⟨p, 0, none⟩), .int .i64 x.A, .int .i64 x.B, .agg (w4 x.w0 x.w1 x.w2 x.w3)] wr.drew fun e w' => e = .returned (.int .i64 ((s.ops n (l.take i)).write n x.A x.B x.w0 x.w1 x.w2 x.w3).1) ∧ IsS w' p B n cap ((s.ops n (l.take i)).write n x.A x.B x.w0 x.w1 x.w2 x.w3).2 ∧ Kp [p, B] wr.drew w') := write_any (w := wr.drew) (hs'.keep rfl rfl) hok x.A x.B x.w0 x.w1 x.w2 x.w3 hok2.ow
      have FZ : wr.drew.cell? ⟨b, off + i * 7, none⟩ = some (.int .u8 x.k) ∧ wr.drew.cell? ⟨b, off + i * 7 + 1, none⟩ = some (.int .i64 x.A) ∧ wr.drew.cell? ⟨b, off + i * 7 + 2, none⟩ = some (.int .i64 x.B) ∧ wr.drew.cell? ⟨b, off + i * 7 + 3, none⟩ = some (.int .u8 x.w0) ∧ wr.drew.cell? ⟨b, off + i * 7 + 3 + 1, none⟩ = some (.int .u8 x.w1) ∧ wr.drew.cell? ⟨b, off + i * 7 + 3 + 2, none⟩ = some (.int .u8 x.w2) ∧ wr.drew.cell? ⟨b, off + i * 7 + 3 + 3, none⟩ = some (.int .u8 x.w3) := ⟨c0, c1, c2, c3, c4, c5, c6⟩
      have KZ : Hid (∀ z, Kp [p, B] wr.drew z → z.cell? ⟨b, off + i * 7, none⟩ = some (.int .u8 x.k) ∧ z.cell? ⟨b, off + i * 7 + 1, none⟩ = some (.int .i64 x.A) ∧ z.cell? ⟨b, off + i * 7 + 2, none⟩ = some (.int .i64 x.B) ∧ z.cell? ⟨b, off + i * 7 + 3, none⟩ = some (.int .u8 x.w0) ∧ z.cell? ⟨b, off + i * 7 + 3 + 1, none⟩ = some (.int .u8 x.w1) ∧ z.cell? ⟨b, off + i * 7 + 3 + 2, none⟩ = some (.int .u8 x.w2) ∧ z.cell? ⟨b, off + i * 7 + 3 + 3, none⟩ = some (.int .u8 x.w3)) := fun z kz => ⟨kz.cell c0 nb, kz.cell c1 nb, kz.cell c2 nb, kz.cell c3 nb, kz.cell c4 nb, kz.cell c5 nb, kz.cell c6 nb⟩
      have HS : Hid (IsS wr p B n cap (s.ops n (l.take i))) := hs'
      generalize (s.ops n (l.take i)).write n x.A x.B x.w0 x.w1 x.w2 x.w3 = RV at *
      clear hs' hok hok2 ho c1 c2 c3 c4 c5 c6
      go_wp2_with fail
      refine wp_region_held_drew (S := fun z => z.cell? ⟨b, off + i * 7, none⟩ = some (.int .u8 x.k) ∧ z.cell? ⟨b, off + i * 7 + 1, none⟩ = some (.int .i64 x.A) ∧ z.cell? ⟨b, off + i * 7 + 2, none⟩ = some (.int .i64 x.B) ∧ z.cell? ⟨b, off + i * 7 + 3, none⟩ = some (.int .u8 x.w0) ∧ z.cell? ⟨b, off + i * 7 + 3 + 1, none⟩ = some (.int .u8 x.w1) ∧ z.cell? ⟨b, off + i * 7 + 3 + 2, none⟩ = some (.int .u8 x.w2) ∧ z.cell? ⟨b, off + i * 7 + 3 + 3, none⟩ = some (.int .u8 x.w3)) (by kernel_rfl) (FZ) (fun hHeld => ?_)
      refine wpAnyH_take (i := 0) (v := (.pointer (some ⟨p, 0, none⟩))) rfl (by kernel_rfl) (by kernel_rfl) (by kernel_rfl) (fun _ _ _ h => h) (Or.inl ⟨by rfl, ?_⟩) (by assumption) ?_
      · intro w9 hSw
        try dsimp only at hSw
        go_simp
        all_goals try decide
        all_goals try assumption
      try simp only [Act.put, List.getElem_toArray, List.getElem_cons_succ, List.getElem_cons_zero, List.setIfInBounds_toArray, List.set_cons_zero, List.set_cons_succ]
      refine wpAnyH_take (i := 1) (v := (.slice (some ⟨b, off, none⟩) len cp)) rfl (by kernel_rfl) (by kernel_rfl) (by kernel_rfl) (fun _ _ _ h => h) (Or.inl ⟨by rfl, ?_⟩) (by assumption) ?_
      · intro w9 hSw
        try dsimp only at hSw
        go_simp
        all_goals try decide
        all_goals try assumption
      try simp only [Act.put, List.getElem_toArray, List.getElem_cons_succ, List.getElem_cons_zero, List.setIfInBounds_toArray, List.set_cons_zero, List.set_cons_succ]
      refine wpAnyH_take (i := 2) (v := (.int .i64 (i : Int))) rfl (by kernel_rfl) (by kernel_rfl) (by kernel_rfl) (fun _ _ _ h => h) (Or.inl ⟨by rfl, ?_⟩) (by assumption) ?_
      · intro w9 hSw
        try dsimp only at hSw
        go_simp
        all_goals try decide
        all_goals try assumption
      try simp only [Act.put, List.getElem_toArray, List.getElem_cons_succ, List.getElem_cons_zero, List.setIfInBounds_toArray, List.set_cons_zero, List.set_cons_succ]
      refine wpAnyH_take (i := 3) (v := (.pointer (some ⟨b, off + i * 7, none⟩))) rfl (by kernel_rfl) (by kernel_rfl) (by kernel_rfl) (fun _ _ _ h => h) (Or.inl ⟨by rfl, ?_⟩) (by assumption) ?_
      · intro w9 hSw
        try dsimp only at hSw
        go_simp
        all_goals try decide
        all_goals try assumption
      try simp only [Act.put, List.getElem_toArray, List.getElem_cons_succ, List.getElem_cons_zero, List.setIfInBounds_toArray, List.set_cons_zero, List.set_cons_succ]
      refine wpAnyH_take (i := 4) (v := (.pointer (some ⟨b, off + i * 7 + 1, none⟩))) rfl (by kernel_rfl) (by kernel_rfl) (by kernel_rfl) (fun _ _ _ h => h) (Or.inl ⟨by rfl, ?_⟩) (by assumption) ?_
      · intro w9 hSw
        try dsimp only at hSw
        go_simp
        all_goals try decide
        all_goals try assumption
      try simp only [Act.put, List.getElem_toArray, List.getElem_cons_succ, List.getElem_cons_zero, List.setIfInBounds_toArray, List.set_cons_zero, List.set_cons_succ]
      refine wpAnyH_take (i := 5) (v := (.int .i64 x.A)) rfl (by kernel_rfl) (by kernel_rfl) (by kernel_rfl) (fun _ _ _ h => h) (Or.inl ⟨by rfl, ?_⟩) (by assumption) ?_
      · intro w9 hSw
        try dsimp only at hSw
        go_simp
        all_goals try decide
        all_goals try assumption
      try simp only [Act.put, List.getElem_toArray, List.getElem_cons_succ, List.getElem_cons_zero, List.setIfInBounds_toArray, List.set_cons_zero, List.set_cons_succ]
      refine wpAnyH_take (i := 6) (v := (.slice (some ⟨b, off, none⟩) len cp)) rfl (by kernel_rfl) (by kernel_rfl) (by kernel_rfl) (fun _ _ _ h => h) (Or.inl ⟨by rfl, ?_⟩) (by assumption) ?_
      · intro w9 hSw
        try dsimp only at hSw
        go_simp
        all_goals try decide
        all_goals try assumption
      try simp only [Act.put, List.getElem_toArray, List.getElem_cons_succ, List.getElem_cons_zero, List.setIfInBounds_toArray, List.set_cons_zero, List.set_cons_succ]
      refine wpAnyH_take (i := 7) (v := (.int .i64 (i : Int))) rfl (by kernel_rfl) (by kernel_rfl) (by kernel_rfl) (fun _ _ _ h => h) (Or.inl ⟨by rfl, ?_⟩) (by assumption) ?_
      · intro w9 hSw
        try dsimp only at hSw
        go_simp
        all_goals try decide
        all_goals try assumption
      try simp only [Act.put, List.getElem_toArray, List.getElem_cons_succ, List.getElem_cons_zero, List.setIfInBounds_toArray, List.set_cons_zero, List.set_cons_succ]
      refine wpAnyH_take (i := 8) (v := (.pointer (some ⟨b, off + i * 7, none⟩))) rfl (by kernel_rfl) (by kernel_rfl) (by kernel_rfl) (fun _ _ _ h => h) (Or.inl ⟨by rfl, ?_⟩) (by assumption) ?_
      · intro w9 hSw
        try dsimp only at hSw
        go_simp
        all_goals try decide
        all_goals try assumption
      try simp only [Act.put, List.getElem_toArray, List.getElem_cons_succ, List.getElem_cons_zero, List.setIfInBounds_toArray, List.set_cons_zero, List.set_cons_succ]
      refine wpAnyH_take (i := 9) (v := (.pointer (some ⟨b, off + i * 7 + 2, none⟩))) rfl (by kernel_rfl) (by kernel_rfl) (by kernel_rfl) (fun _ _ _ h => h) (Or.inl ⟨by rfl, ?_⟩) (by assumption) ?_
      · intro w9 hSw
        try dsimp only at hSw
        go_simp
        all_goals try decide
        all_goals try assumption
      try simp only [Act.put, List.getElem_toArray, List.getElem_cons_succ, List.getElem_cons_zero, List.setIfInBounds_toArray, List.set_cons_zero, List.set_cons_succ]
      refine wpAnyH_take (i := 10) (v := (.int .i64 x.B)) rfl (by kernel_rfl) (by kernel_rfl) (by kernel_rfl) (fun _ _ _ h => h) (Or.inl ⟨by rfl, ?_⟩) (by assumption) ?_
      · intro w9 hSw
        try dsimp only at hSw
        go_simp
        all_goals try decide
        all_goals try assumption
      try simp only [Act.put, List.getElem_toArray, List.getElem_cons_succ, List.getElem_cons_zero, List.setIfInBounds_toArray, List.set_cons_zero, List.set_cons_succ]
      refine wpAnyH_take (i := 11) (v := (.slice (some ⟨b, off, none⟩) len cp)) rfl (by kernel_rfl) (by kernel_rfl) (by kernel_rfl) (fun _ _ _ h => h) (Or.inl ⟨by rfl, ?_⟩) (by assumption) ?_
      · intro w9 hSw
        try dsimp only at hSw
        go_simp
        all_goals try decide
        all_goals try assumption
      try simp only [Act.put, List.getElem_toArray, List.getElem_cons_succ, List.getElem_cons_zero, List.setIfInBounds_toArray, List.set_cons_zero, List.set_cons_succ]
      refine wpAnyH_take (i := 12) (v := (.int .i64 (i : Int))) rfl (by kernel_rfl) (by kernel_rfl) (by kernel_rfl) (fun _ _ _ h => h) (Or.inl ⟨by rfl, ?_⟩) (by assumption) ?_
      · intro w9 hSw
        try dsimp only at hSw
        go_simp
        all_goals try decide
        all_goals try assumption
      try simp only [Act.put, List.getElem_toArray, List.getElem_cons_succ, List.getElem_cons_zero, List.setIfInBounds_toArray, List.set_cons_zero, List.set_cons_succ]
      refine wpAnyH_take (i := 13) (v := (.pointer (some ⟨b, off + i * 7, none⟩))) rfl (by kernel_rfl) (by kernel_rfl) (by kernel_rfl) (fun _ _ _ h => h) (Or.inl ⟨by rfl, ?_⟩) (by assumption) ?_
      · intro w9 hSw
        try dsimp only at hSw
        go_simp
        all_goals try decide
        all_goals try assumption
      try simp only [Act.put, List.getElem_toArray, List.getElem_cons_succ, List.getElem_cons_zero, List.setIfInBounds_toArray, List.set_cons_zero, List.set_cons_succ]
      refine wpAnyH_take (i := 14) (v := (.pointer (some ⟨b, off + i * 7 + 3, none⟩))) rfl (by kernel_rfl) (by kernel_rfl) (by kernel_rfl) (fun _ _ _ h => h) (Or.inl ⟨by rfl, ?_⟩) (by assumption) ?_
      · intro w9 hSw
        try dsimp only at hSw
        go_simp
        all_goals try decide
        all_goals try assumption
      try simp only [Act.put, List.getElem_toArray, List.getElem_cons_succ, List.getElem_cons_zero, List.setIfInBounds_toArray, List.set_cons_zero, List.set_cons_succ]
      refine wpAnyH_take (i := 15) (v := (.agg (w4 x.w0 x.w1 x.w2 x.w3))) rfl (by kernel_rfl) (by kernel_rfl) (by kernel_rfl) (fun _ _ _ h => h) (Or.inl ⟨by rfl, ?_⟩) (by assumption) ?_
      · intro w9 hSw
        try dsimp only at hSw
        go_simp
        all_goals try decide
        all_goals try assumption
      try simp only [Act.put, List.getElem_toArray, List.getElem_cons_succ, List.getElem_cons_zero, List.setIfInBounds_toArray, List.set_cons_zero, List.set_cons_succ]
      refine wpAnyH_ready (rs := [16]) (by kernel_rfl) (by simp) ?_
      refine AllReadyH.cons rfl (fun K' hK => ?_) AllReadyH.nil
      rw [if_pos (by rfl)]
      simp only [List.getElem_toArray, List.getElem_cons_succ, List.getElem_cons_zero]
      go_wp2_with fail
      refine (WR.out).mono ?_
      rintro e z ⟨rfl, hz, kz⟩
      try go_wp2_with fail
      refine hK.out _ _ (KZ.out z kz) (fun hHeld => ?_)
      clear hK K'
      try simp only [Act.put, List.getElem_toArray, List.getElem_cons_succ, List.getElem_cons_zero, List.setIfInBounds_toArray, List.set_cons_zero, List.set_cons_succ]
      refine wpAnyH_done (by kernel_rfl) ?_ _
      have KZZ : Kp [p, B] wr z := (Kp.refl _ _).drew.trans kz
      have NX : Hid (IsS z p B n cap (s.ops n (l.take (i + 1)))) := by show IsS _ _ _ _ _ _; rw [FS.ops_next n s l i x hx, RR]; exact hz
      have KK : Kp [p, B] w z := hk.trans KZZ
      go_wp2_with fail
      exact ⟨⟨i + 1, by omega, by go_num, NX.out, KK⟩, by simp [intOf]; omega⟩
    · have RR : (s.ops n (l.take i)).op n x = ((s.ops n (l.take i)).write n x.A x.B x.w0 x.w1 x.w2 x.w3).2 := by unfold FS.op; rw [if_pos (by omega)]
      have R1 : x.k.tmod 9 = 2 := by rw [Int.tmod_eq_emod_of_nonneg hok2.k0]; omega
      have R2 : x.k % 9 = 2 := by omega
      have WR : Hid (Calls Try.prog 21 #[.pointer (some ⟨p, 0, none⟩), .int .i64 x.A, .int .i64 x.B, .agg (w4 x.w0 x.w1 x.w2 x.w3)] wr.drew fun e w' => e = .returned (.int .i64 ((s.ops n (l.take i)).write n x.A x.B x.w0 x.w1 x.w2 x.w3).1) ∧ IsS w' p B n cap ((s.ops n (l.take i)).write n x.A x.B x.w0 x.w1 x.w2 x.w3).2 ∧ Kp [p, B] wr.drew w') := write_any (w := wr.drew) (hs'.keep rfl rfl) hok x.A x.B x.w0 x.w1 x.w2 x.w3 hok2.ow
      have FZ : wr.drew.cell? ⟨b, off + i * 7, none⟩ = some (.int .u8 x.k) ∧ wr.drew.cell? ⟨b, off + i * 7 + 1, none⟩ = some (.int .i64 x.A) ∧ wr.drew.cell? ⟨b, off + i * 7 + 2, none⟩ = some (.int .i64 x.B) ∧ wr.drew.cell? ⟨b, off + i * 7 + 3, none⟩ = some (.int .u8 x.w0) ∧ wr.drew.cell? ⟨b, off + i * 7 + 3 + 1, none⟩ = some (.int .u8 x.w1) ∧ wr.drew.cell? ⟨b, off + i * 7 + 3 + 2, none⟩ = some (.int .u8 x.w2) ∧ wr.drew.cell? ⟨b, off + i * 7 + 3 + 3, none⟩ = some (.int .u8 x.w3) := ⟨c0, c1, c2, c3, c4, c5, c6⟩
      have KZ : Hid (∀ z, Kp [p, B] wr.drew z → z.cell? ⟨b, off + i * 7, none⟩ = some (.int .u8 x.k) ∧ z.cell? ⟨b, off + i * 7 + 1, none⟩ = some (.int .i64 x.A) ∧ z.cell? ⟨b, off + i * 7 + 2, none⟩ = some (.int .i64 x.B) ∧ z.cell? ⟨b, off + i * 7 + 3, none⟩ = some (.int .u8 x.w0) ∧ z.cell? ⟨b, off + i * 7 + 3 + 1, none⟩ = some (.int .u8 x.w1) ∧ z.cell? ⟨b, off + i * 7 + 3 + 2, none⟩ = some (.int .u8 x.w2) ∧ z.cell? ⟨b, off + i * 7 + 3 + 3, none⟩ = some (.int .u8 x.w3)) := fun z kz => ⟨kz.cell c0 nb, kz.cell c1 nb, kz.cell c2 nb, kz.cell c3 nb, kz.cell c4 nb, kz.cell c5 nb, kz.cell c6 nb⟩
      have HS : Hid (IsS wr p B n cap (s.ops n (l.take i))) := hs'
      generalize (s.ops n (l.take i)).write n x.A x.B x.w0 x.w1 x.w2 x.w3 = RV at *
      clear hs' hok hok2 ho c1 c2 c3 c4 c5 c6
      go_wp2_with fail
      refine wp_region_held_drew (S := fun z => z.cell? ⟨b, off + i * 7, none⟩ = some (.int .u8 x.k) ∧ z.cell? ⟨b, off + i * 7 + 1, none⟩ = some (.int .i64 x.A) ∧ z.cell? ⟨b, off + i * 7 + 2, none⟩ = some (.int .i64 x.B) ∧ z.cell? ⟨b, off + i * 7 + 3, none⟩ = some (.int .u8 x.w0) ∧ z.cell? ⟨b, off + i * 7 + 3 + 1, none⟩ = some (.int .u8 x.w1) ∧ z.cell? ⟨b, off + i * 7 + 3 + 2, none⟩ = some (.int .u8 x.w2) ∧ z.cell? ⟨b, off + i * 7 + 3 + 3, none⟩ = some (.int .u8 x.w3)) (by kernel_rfl) (FZ) (fun hHeld => ?_)
      refine wpAnyH_take (i := 0) (v := (.pointer (some ⟨p, 0, none⟩))) rfl (by kernel_rfl) (by kernel_rfl) (by kernel_rfl) (fun _ _ _ h => h) (Or.inl ⟨by rfl, ?_⟩) (by assumption) ?_
      · intro w9 hSw
        try dsimp only at hSw
        go_simp
        all_goals try decide
        all_goals try assumption
      try simp only [Act.put, List.getElem_toArray, List.getElem_cons_succ, List.getElem_cons_zero, List.setIfInBounds_toArray, List.set_cons_zero, List.set_cons_succ]
      refine wpAnyH_take (i := 1) (v := (.slice (some ⟨b, off, none⟩) len cp)) rfl (by kernel_rfl) (by kernel_rfl) (by kernel_rfl) (fun _ _ _ h => h) (Or.inl ⟨by rfl, ?_⟩) (by assumption) ?_
      · intro w9 hSw
        try dsimp only at hSw
        go_simp
        all_goals try decide
        all_goals try assumption
      try simp only [Act.put, List.getElem_toArray, List.getElem_cons_succ, List.getElem_cons_zero, List.setIfInBounds_toArray, List.set_cons_zero, List.set_cons_succ]
      refine wpAnyH_take (i := 2) (v := (.int .i64 (i : Int))) rfl (by kernel_rfl) (by kernel_rfl) (by kernel_rfl) (fun _ _ _ h => h) (Or.inl ⟨by rfl, ?_⟩) (by assumption) ?_
      · intro w9 hSw
        try dsimp only at hSw
        go_simp
        all_goals try decide
        all_goals try assumption
      try simp only [Act.put, List.getElem_toArray, List.getElem_cons_succ, List.getElem_cons_zero, List.setIfInBounds_toArray, List.set_cons_zero, List.set_cons_succ]
      refine wpAnyH_take (i := 3) (v := (.pointer (some ⟨b, off + i * 7, none⟩))) rfl (by kernel_rfl) (by kernel_rfl) (by kernel_rfl) (fun _ _ _ h => h) (Or.inl ⟨by rfl, ?_⟩) (by assumption) ?_
      · intro w9 hSw
        try dsimp only at hSw
        go_simp
        all_goals try decide
        all_goals try assumption
      try simp only [Act.put, List.getElem_toArray, List.getElem_cons_succ, List.getElem_cons_zero, List.setIfInBounds_toArray, List.set_cons_zero, List.set_cons_succ]
      refine wpAnyH_take (i := 4) (v := (.pointer (some ⟨b, off + i * 7 + 1, none⟩))) rfl (by kernel_rfl) (by kernel_rfl) (by kernel_rfl) (fun _ _ _ h => h) (Or.inl ⟨by rfl, ?_⟩) (by assumption) ?_
      · intro w9 hSw
        try dsimp only at hSw
        go_simp
        all_goals try decide
        all_goals try assumption
      try simp only [Act.put, List.getElem_toArray, List.getElem_cons_succ, List.getElem_cons_zero, List.setIfInBounds_toArray, List.set_cons_zero, List.set_cons_succ]
      refine wpAnyH_take (i := 5) (v := (.int .i64 x.A)) rfl (by kernel_rfl) (by kernel_rfl) (by kernel_rfl) (fun _ _ _ h => h) (Or.inl ⟨by rfl, ?_⟩) (by assumption) ?_
      · intro w9 hSw
        try dsimp only at hSw
        go_simp
        all_goals try decide
        all_goals try assumption
      try simp only [Act.put, List.getElem_toArray, List.getElem_cons_succ, List.getElem_cons_zero, List.setIfInBounds_toArray, List.set_cons_zero, List.set_cons_succ]
      refine wpAnyH_take (i := 6) (v := (.slice (some ⟨b, off, none⟩) len cp)) rfl (by kernel_rfl) (by kernel_rfl) (by kernel_rfl) (fun _ _ _ h => h) (Or.inl ⟨by rfl, ?_⟩) (by assumption) ?_
      · intro w9 hSw
        try dsimp only at hSw
        go_simp
        all_goals try decide
        all_goals try assumption
      try simp only [Act.put, List.getElem_toArray, List.getElem_cons_succ, List.getElem_cons_zero, List.setIfInBounds_toArray, List.set_cons_zero, List.set_cons_succ]
      refine wpAnyH_take (i := 7) (v := (.int .i64 (i : Int))) rfl (by kernel_rfl) (by kernel_rfl) (by kernel_rfl) (fun _ _ _ h => h) (Or.inl ⟨by rfl, ?_⟩) (by assumption) ?_
      · intro w9 hSw
        try dsimp only at hSw
        go_simp
        all_goals try decide
        all_goals try assumption
      try simp only [Act.put, List.getElem_toArray, List.getElem_cons_succ, List.getElem_cons_zero, List.setIfInBounds_toArray, List.set_cons_zero, List.set_cons_succ]
      refine wpAnyH_take (i := 8) (v := (.pointer (some ⟨b, off + i * 7, none⟩))) rfl (by kernel_rfl) (by kernel_rfl) (by kernel_rfl) (fun _ _ _ h => h) (Or.inl ⟨by rfl, ?_⟩) (by assumption) ?_
      · intro w9 hSw
        try dsimp only at hSw
        go_simp
        all_goals try decide
        all_goals try assumption
      try simp only [Act.put, List.getElem_toArray, List.getElem_cons_succ, List.getElem_cons_zero, List.setIfInBounds_toArray, List.set_cons_zero, List.set_cons_succ]
      refine wpAnyH_take (i := 9) (v := (.pointer (some ⟨b, off + i * 7 + 2, none⟩))) rfl (by kernel_rfl) (by kernel_rfl) (by kernel_rfl) (fun _ _ _ h => h) (Or.inl ⟨by rfl, ?_⟩) (by assumption) ?_
      · intro w9 hSw
        try dsimp only at hSw
        go_simp
        all_goals try decide
        all_goals try assumption
      try simp only [Act.put, List.getElem_toArray, List.getElem_cons_succ, List.getElem_cons_zero, List.setIfInBounds_toArray, List.set_cons_zero, List.set_cons_succ]
      refine wpAnyH_take (i := 10) (v := (.int .i64 x.B)) rfl (by kernel_rfl) (by kernel_rfl) (by kernel_rfl) (fun _ _ _ h => h) (Or.inl ⟨by rfl, ?_⟩) (by assumption) ?_
      · intro w9 hSw
        try dsimp only at hSw
        go_simp
        all_goals try decide
        all_goals try assumption
      try simp only [Act.put, List.getElem_toArray, List.getElem_cons_succ, List.getElem_cons_zero, List.setIfInBounds_toArray, List.set_cons_zero, List.set_cons_succ]
      refine wpAnyH_take (i := 11) (v := (.slice (some ⟨b, off, none⟩) len cp)) rfl (by kernel_rfl) (by kernel_rfl) (by kernel_rfl) (fun _ _ _ h => h) (Or.inl ⟨by rfl, ?_⟩) (by assumption) ?_
      · intro w9 hSw
        try dsimp only at hSw
        go_simp
        all_goals try decide
        all_goals try assumption
      try simp only [Act.put, List.getElem_toArray, List.getElem_cons_succ, List.getElem_cons_zero, List.setIfInBounds_toArray, List.set_cons_zero, List.set_cons_succ]
      refine wpAnyH_take (i := 12) (v := (.int .i64 (i : Int))) rfl (by kernel_rfl) (by kernel_rfl) (by kernel_rfl) (fun _ _ _ h => h) (Or.inl ⟨by rfl, ?_⟩) (by assumption) ?_
      · intro w9 hSw
        try dsimp only at hSw
        go_simp
        all_goals try decide
        all_goals try assumption
      try simp only [Act.put, List.getElem_toArray, List.getElem_cons_succ, List.getElem_cons_zero, List.setIfInBounds_toArray, List.set_cons_zero, List.set_cons_succ]
      refine wpAnyH_take (i := 13) (v := (.pointer (some ⟨b, off + i * 7, none⟩))) rfl (by kernel_rfl) (by kernel_rfl) (by kernel_rfl) (fun _ _ _ h => h) (Or.inl ⟨by rfl, ?_⟩) (by assumption) ?_
      · intro w9 hSw
        try dsimp only at hSw
        go_simp
        all_goals try decide
        all_goals try assumption
      try simp only [Act.put, List.getElem_toArray, List.getElem_cons_succ, List.getElem_cons_zero, List.setIfInBounds_toArray, List.set_cons_zero, List.set_cons_succ]
      refine wpAnyH_take (i := 14) (v := (.pointer (some ⟨b, off + i * 7 + 3, none⟩))) rfl (by kernel_rfl) (by kernel_rfl) (by kernel_rfl) (fun _ _ _ h => h) (Or.inl ⟨by rfl, ?_⟩) (by assumption) ?_
      · intro w9 hSw
        try dsimp only at hSw
        go_simp
        all_goals try decide
        all_goals try assumption
      try simp only [Act.put, List.getElem_toArray, List.getElem_cons_succ, List.getElem_cons_zero, List.setIfInBounds_toArray, List.set_cons_zero, List.set_cons_succ]
      refine wpAnyH_take (i := 15) (v := (.agg (w4 x.w0 x.w1 x.w2 x.w3))) rfl (by kernel_rfl) (by kernel_rfl) (by kernel_rfl) (fun _ _ _ h => h) (Or.inl ⟨by rfl, ?_⟩) (by assumption) ?_
      · intro w9 hSw
        try dsimp only at hSw
        go_simp
        all_goals try decide
        all_goals try assumption
      try simp only [Act.put, List.getElem_toArray, List.getElem_cons_succ, List.getElem_cons_zero, List.setIfInBounds_toArray, List.set_cons_zero, List.set_cons_succ]
      refine wpAnyH_ready (rs := [16]) (by kernel_rfl) (by simp) ?_
      refine AllReadyH.cons rfl (fun K' hK => ?_) AllReadyH.nil
      rw [if_pos (by rfl)]
      simp only [List.getElem_toArray, List.getElem_cons_succ, List.getElem_cons_zero]
      go_wp2_with fail
      refine (WR.out).mono ?_
      rintro e z ⟨rfl, hz, kz⟩
      try go_wp2_with fail
      refine hK.out _ _ (KZ.out z kz) (fun hHeld => ?_)
      clear hK K'
      try simp only [Act.put, List.getElem_toArray, List.getElem_cons_succ, List.getElem_cons_zero, List.setIfInBounds_toArray, List.set_cons_zero, List.set_cons_succ]
      refine wpAnyH_done (by kernel_rfl) ?_ _
      have KZZ : Kp [p, B] wr z := (Kp.refl _ _).drew.trans kz
      have NX : Hid (IsS z p B n cap (s.ops n (l.take (i + 1)))) := by show IsS _ _ _ _ _ _; rw [FS.ops_next n s l i x hx, RR]; exact hz
      have KK : Kp [p, B] w z := hk.trans KZZ
      go_wp2_with fail
      exact ⟨⟨i + 1, by omega, by go_num, NX.out, KK⟩, by simp [intOf]; omega⟩
    · have RR : (s.ops n (l.take i)).op n x = ((s.ops n (l.take i)).erase n x.A).2 := by unfold FS.op; rw [if_neg (by omega), if_pos (by omega)]
      have R1 : x.k.tmod 9 = 3 := by rw [Int.tmod_eq_emod_of_nonneg hok2.k0]; omega
      have R2 : x.k % 9 = 3 := by omega
      have CO := erase_any (w := wr) hs' hok x.A
      clear ho c2 c3 c4 c5 c6
      go_wp2_with fail
      refine CO.mono ?_
      rintro e z ⟨rfl, hz, kz⟩
      clear CO
      have KZZ : Kp [p, B] wr z := kz.more (by simp)
      have NX : Hid (IsS z p B n cap (s.ops n (l.take (i + 1)))) := by show IsS _ _ _ _ _ _; rw [FS.ops_next n s l i x hx, RR]; exact hz
      have KK : Kp [p, B] w z := hk.trans KZZ
      go_wp2_with fail
      exact ⟨⟨i + 1, by omega, by go_num, NX.out, KK⟩, by simp [intOf]; omega⟩
    · have RR : (s.ops n (l.take i)).op n x = ⟨(s.ops n (l.take i)).cs, (s.ops n (l.take i)).st, decide (0 ≤ x.A), max x.A 0, (s.ops n (l.take i)).of⟩ := by unfold FS.op; rw [if_neg (by omega), if_neg (by omega), if_pos (by omega)]
      have R1 : x.k.tmod 9 = 4 := by rw [Int.tmod_eq_emod_of_nonneg hok2.k0]; omega
      have R2 : x.k % 9 = 4 := by omega
      have CO := cut_any (w := wr) hs' x.A
      clear ho c2 c3 c4 c5 c6
      go_wp2_with fail
      refine CO.mono ?_
      rintro e z ⟨rfl, hz, kz⟩
      clear CO
      have KZZ : Kp [p, B] wr z := kz.more (by simp)
      have NX : Hid (IsS z p B n cap (s.ops n (l.take (i + 1)))) := by show IsS _ _ _ _ _ _; rw [FS.ops_next n s l i x hx, RR]; exact hz
      have KK : Kp [p, B] w z := hk.trans KZZ
      go_wp2_with fail
      exact ⟨⟨i + 1, by omega, by go_num, NX.out, KK⟩, by simp [intOf]; omega⟩
    · have RR : (s.ops n (l.take i)).op n x = ⟨(s.ops n (l.take i)).cs, (s.ops n (l.take i)).st, false, 0, false⟩ := by unfold FS.op; rw [if_neg (by omega), if_neg (by omega), if_neg (by omega), if_pos (by omega)]
      have R1 : x.k.tmod 9 = 5 := by rw [Int.tmod_eq_emod_of_nonneg hok2.k0]; omega
      have R2 : x.k % 9 = 5 := by omega
      have CO := on_any (w := wr) hs'
      clear ho c2 c3 c4 c5 c6
      go_wp2_with fail
      refine CO.mono ?_
      rintro e z ⟨rfl, hz, kz⟩
      clear CO
      have KZZ : Kp [p, B] wr z := kz.more (by simp)
      have NX : Hid (IsS z p B n cap (s.ops n (l.take (i + 1)))) := by show IsS _ _ _ _ _ _; rw [FS.ops_next n s l i x hx, RR]; exact hz
      have KK : Kp [p, B] w z := hk.trans KZZ
      go_wp2_with fail
      exact ⟨⟨i + 1, by omega, by go_num, NX.out, KK⟩, by simp [intOf]; omega⟩
    · have RR : (s.ops n (l.take i)).op n x = s.ops n (l.take i) := by unfold FS.op; rw [if_neg (by omega), if_neg (by omega), if_neg (by omega), if_neg (by omega)]
      have NX : Hid (IsS wr p B n cap (s.ops n (l.take (i + 1)))) := by show IsS _ _ _ _ _ _; rw [FS.ops_next n s l i x hx, RR]; exact hs'
      have R1 : x.k.tmod 9 = x.k % 9 := Int.tmod_eq_emod_of_nonneg hok2.k0
      have r0 : (x.k % 9 == 0) = false := by simp; omega
      have r1 : (x.k % 9 == 1) = false := by simp; omega
      have r2 : (x.k % 9 == 2) = false := by simp; omega
      have r3 : (x.k % 9 == 3) = false := by simp; omega
      have r4 : (x.k % 9 == 4) = false := by simp; omega
      have r5 : (x.k % 9 == 5) = false := by simp; omega
      clear ho c1 c2 c3 c4 c5 c6 hs' hok hok2 hrr
      generalize x.k % 9 = R at *
      go_wp2_with fail
      exact ⟨⟨i + 1, by omega, by go_num, NX.out, hk⟩, by simp [intOf]; omega⟩

theorem IsOps.old {w : World} {a : Option Addr} {len : Nat} {l : List Opv} (h : IsOps w a len l) (hp : 0 < len) (b off : Nat) (e : a = some ⟨b, off, none⟩) : b < w.heap.size := by
  obtain ⟨b', off', e', hc⟩ := h.at_ hp
  rw [e] at e'; cases e'
  have hs := h.size
  exact block_lt_of_cell (hc 0 (l[0]'(by omega)) (List.getElem?_eq_getElem _)).1
theorem IsOps.next {w w' : World} {a : Option Addr} {len : Nat} {l : List Opv} (h : IsOps w a len l) (hb : Below w.heap.size w w') : IsOps w' a len l := by
  refine ⟨h.size, h.good, fun hp => ?_⟩
  have ho := h.old hp
  obtain ⟨b, off, e, hc⟩ := h.at_ hp
  have hlt := ho b off e
  refine ⟨b, off, e, fun i x hx => ?_⟩
  have k : Kp [] w w' := Kp.of hb
  obtain ⟨c0, c1, c2, c3, c4, c5, c6⟩ := hc i x hx
  exact ⟨k.cell c0 (by simp), k.cell c1 (by simp), k.cell c2 (by simp), k.cell c3 (by simp), k.cell c4 (by simp), k.cell c5 (by simp), k.cell c6 (by simp)⟩
theorem runsB {w0 w : World} {a : Option Addr} {len : Nat} {l : List Opv} (o : IsOps w0 a len l) (hb : Below w0.heap.size w0 w) {p B n cap : Nat} {s : FS} (h : IsS w p B n cap s) {m : Nat} (hm : s.Le m) (cp : Nat) (hl : m + len ≤ 1000000) (hp : w0.heap.size ≤ p) (hB : w0.heap.size ≤ B) :
    Calls Try.prog 24 #[.pointer (some ⟨p, 0, none⟩), .slice a len cp] w fun e w' => e = .returned (.tuple #[]) ∧ IsS w' p B n cap (s.ops n l) ∧ Kp [p, B] w w' ∧ Below w0.heap.size w0 w' := by
  refine (runs_any h hm a len cp l hl (o.next hb) (fun hp0 b off e => ?_)).mono fun e w' ⟨x, y, z⟩ => ⟨x, y, z, Kp.below hb z hb.size (by intro i hi; simp at hi; rcases hi with rfl | rfl; exact hp; exact hB)⟩
  have := o.old hp0 b off e
  simp; omega
#print axioms runs_any
#print axioms runsB
end Go.Proofs.Ytdohjolgcmokhaa
