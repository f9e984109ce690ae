/-
  The walk of JournalAny.
-/
import Derived.Test.YtgpbmccjcjoijaaKjt
namespace Go.Proofs.Ytgpbmccjcjoijaa
open Go.RowKit

/-- A flash with whatever was written to it. -/
structure WS (w0 wr : World) (p B : Nat) (s : FS) (m : Nat) : Prop where
  bel : Below w0.heap.size w0 wr
  fs : IsS wr p B 3 3 s
  le : s.Le m
  of : s.of = false
  ar : s.ar = false
  new : w0.heap.size ≤ p ∧ w0.heap.size ≤ B
theorem write_free {s : FS} {n : Nat} {k d b0 b1 b2 b3 : Int} (ha : s.ar = false) : (s.write n k d b0 b1 b2 b3).2.ar = false ∧ (s.write n k d b0 b1 b2 b3).2.of = s.of := by
  unfold FS.write
  split
  · exact ⟨ha, rfl⟩
  · split
    · rw [FS.step_free ha]; exact ⟨ha, rfl⟩
    · exact ⟨ha, rfl⟩
theorem WS.write {w0 wr V : World} {p B : Nat} {s : FS} {m : Nat} {k d b0 b1 b2 b3 : Int} (h : WS w0 wr p B s m) (hF : IsS V p B 3 3 (s.write 3 k d b0 b1 b2 b3).2) (hK : Kp [p, B] wr V) : WS w0 V p B (s.write 3 k d b0 b1 b2 b3).2 (m + 1) :=
  ⟨hK.below h.bel h.bel.size (fun x hx => by have := h.new; simp at hx; omega), hF, h.le.write 3 k d b0 b1 b2 b3, (write_free h.ar).2.trans h.of, (write_free h.ar).1, h.new⟩
theorem grpN_mem : ∀ (l : List Gp) (k : Nat) (v : Int), v ∈ grpN l k → ∃ i g, l[i]? = some g ∧ g.there = true ∧ v = ((k + i : Nat) : Int)
  | [], k, v, h => by simp [grpN] at h
  | g :: l, k, v, h => by
    have h' : v ∈ (if g.there then (k : Int) :: grpN l (k + 1) else grpN l (k + 1)) := h
    have rest : v ∈ grpN l (k + 1) → ∃ i g', (g :: l)[i]? = some g' ∧ g'.there = true ∧ v = ((k + i : Nat) : Int) := fun hm => by
      obtain ⟨i, g', e, t, ev⟩ := grpN_mem l (k + 1) v hm
      exact ⟨i + 1, g', by simpa using e, t, by rw [ev]; congr 1; omega⟩
    split at h'
    · rcases List.mem_cons.1 h' with rfl | hm
      · exact ⟨0, g, rfl, by assumption, by simp⟩
      · exact rest hm
    · exact rest h'
theorem take1_there {all : List Gp} {r : Rec} {i : Nat} {g : Gp} (hr : r.kind = 2) (h : all[i]? = some g) (ht : g.there = true) : ∃ g', (take1 all r)[i]? = some g' ∧ g'.there = true := by
  have hi : i < all.length := (List.getElem?_eq_some_iff.1 h).1
  unfold take1
  rw [if_pos hr]
  by_cases e : r.grp.toNat = i
  · rw [e, List.getElem?_set_self hi]; exact ⟨_, rfl, rfl⟩
  · rw [List.getElem?_set_ne e]; exact ⟨g, h, ht⟩

set_option linter.unusedSimpArgs false in
set_option maxHeartbeats 16000000 in
set_option maxRecDepth 100000 in
theorem journalAny_any {w : World} {a : Option Addr} {lb : Nat} {bs : List Int} (rb : Row w a lb bs) (cb : Nat) (at_ : Int) (gr : Int) (hgr : 0 ≤ gr ∧ gr < 256) {ax : Option Addr} {lx : Nat} {xs : List Int} (rx : Row w ax lx xs) (cx : Nat) :
    Calls Try.prog 5 #[.slice a lb cb, .int .i64 at_, .int .u8 gr, .slice ax lx cx] w fun e w' => e = .returned (.bool true) ∧ Below w.heap.size w w' := by
  have WK := works_any w
  obtain rfl : xs.length = lx := rx.size
  have HRB : Hid (Row w a lb bs) := rb
  have HRX : Hid (Row w ax xs.length xs) := rx
  clear rb rx
  by_cases hb3 : lb > 3072
  · have g1 : (lb : Int) > 3072 := by omega
    go_enter Try.func5, Try.ntmps5
    go_wp2_with fail
    with_reducible refine WK.mono ?_
    rintro e Z ⟨rfl, hZ⟩
    clear WK
    go_wp2_with fail
    go_ret
    exact ⟨rfl, hZ⟩
  have g1 : ¬ (lb : Int) > 3072 := by omega
  by_cases hx2 : xs.length > 200
  · have g2 : (xs.length : Int) > 200 := by omega
    go_enter Try.func5, Try.ntmps5
    go_wp2_with fail
    with_reducible refine WK.mono ?_
    rintro e Z ⟨rfl, hZ⟩
    clear WK
    go_wp2_with fail
    go_ret
    exact ⟨rfl, hZ⟩
  have g2 : ¬ (xs.length : Int) > 200 := by omega
  clear WK
  have NW := new_ok 3 (by omega) (by omega) w
  rw [show ((3 : Nat) : Int) = 3 from rfl] at NW
  obtain ⟨F, hF0⟩ : ∃ F : Nat, Hid ((IntKind.u64.wrap at_).tmod 768 = (F : Int) ∧ F < 768) := by
    have h0 : 0 ≤ IntKind.u64.wrap at_ := by simp [IntKind.wrap, IntKind.bits, IntKind.signed]; omega
    have e : (IntKind.u64.wrap at_).tmod 768 = IntKind.u64.wrap at_ % 768 := Int.tmod_eq_emod_of_nonneg h0
    exact ⟨(IntKind.u64.wrap at_ % 768).toNat, by rw [e]; omega, by omega⟩
  have fE := hF0.out.1
  have fL := hF0.out.2
  have fW : IntKind.i64.wrap (F : Int) = (F : Int) := wrap64 _ (by omega) (by omega)
  have fW2 : IntKind.u64.wrap (F : Int) = (F : Int) := by simp [IntKind.wrap, IntKind.bits, IntKind.signed]; omega
  go_enter Try.func5, Try.ntmps5
  go_wp2_with fail
  with_reducible refine NW.mono ?_
  rintro e U ⟨⟨p, B, rfl, hp, hB, hF⟩, hb⟩
  clear NW
  have HW0 : Hid (WS w U p B (newS 3) 0) := ⟨hb, hF, ⟨by decide, by decide, by decide, by decide⟩, rfl, rfl, hp, hB⟩
  clear hF hb
  go_wp2_with fail
  go_loopw [12] (fun vi wr => ∃ (t : Nat) (s : FS), 4 * t ≤ lb ∧ vi = .int .i64 (4 * t : Int) ∧ WS w wr p B s t) (fun vi _ => lb - (intOf vi).toNat)
  case atStart => exact ⟨0, newS 3, by omega, rfl, HW0.out⟩
  case round =>
    clear HW0 fE fW fW2 hF0
    obtain ⟨t, s, ht, rfl, hW⟩ := hrel
    have HW : Hid (WS w wr p B s t) := hW
    clear hW
    by_cases hlt : 4 * t + 4 ≤ lb
    · have gl : (4 * t : Int) + 4 ≤ (lb : Int) := by omega
      have gt0 : (0 : Int) ≤ 4 * t := by omega
      have gW : IntKind.i64.wrap (4 * (t : Int) + 4) = 4 * (t : Int) + 4 := wrap64 _ (by omega) (by omega)
      have gW1 : IntKind.i64.wrap (4 * (t : Int) + 1) = 4 * (t : Int) + 1 := wrap64 _ (by omega) (by omega)
      have gW2 : IntKind.i64.wrap (4 * (t : Int) + 2) = 4 * (t : Int) + 2 := wrap64 _ (by omega) (by omega)
      have gW3 : IntKind.i64.wrap (4 * (t : Int) + 3) = 4 * (t : Int) + 3 := wrap64 _ (by omega) (by omega)
      obtain ⟨K, hK⟩ : ∃ K : Nat, Hid (K < 768 ∧ ((F : Int) + (t : Int)).tmod 768 = (K : Int)) := ⟨(F + t) % 768, by omega, by rw [Int.tmod_eq_emod_of_nonneg (by omega)]; omega⟩
      obtain ⟨K1, hK1⟩ : ∃ K1 : Nat, Hid ((K : Int).tdiv 256 = (K1 : Int)) := ⟨K / 256, by show _ = _; rw [Int.tdiv_eq_ediv_of_nonneg (by omega)]; omega⟩
      obtain ⟨K2, hK2⟩ : ∃ K2 : Nat, Hid ((K : Int).tmod 256 = (K2 : Int)) := ⟨K % 256, by show _ = _; rw [Int.tmod_eq_emod_of_nonneg (by omega)]; omega⟩
      have k0 := hK.out.1
      have kE := hK.out.2
      have k1E := hK1.out
      have k2E := hK2.out
      have tE : (4 * (t : Int)).tdiv 4 = (t : Int) := by rw [Int.tdiv_eq_ediv_of_nonneg (by omega)]; omega
      have tW : IntKind.i64.wrap (t : Int) = (t : Int) := wrap64 _ (by omega) (by omega)
      have sW : IntKind.i64.wrap ((F : Int) + (t : Int)) = (F : Int) + (t : Int) := wrap64 _ (by omega) (by omega)
      have kW : IntKind.i64.wrap (K : Int) = (K : Int) := wrap64 _ (by omega) (by omega)
      have k1W : IntKind.i64.wrap (K1 : Int) = (K1 : Int) := wrap64 _ (by omega) (by rw [← k1E, Int.tdiv_eq_ediv_of_nonneg (by omega)]; omega)
      have k2W : IntKind.i64.wrap (K2 : Int) = (K2 : Int) := wrap64 _ (by omega) (by rw [← k2E, Int.tmod_eq_emod_of_nonneg (by omega)]; omega)
      obtain ⟨bb, off, rfl, hc⟩ := HRB.out.at_ (by omega)
      have hbl : bb < w.heap.size := block_lt_of_cell (hc 0 (by omega))
      have y0 : wr.cell? ⟨bb, off + 4 * t, none⟩ = some (.int .u8 (bs.getD (4 * t) 0)) := by rw [HW.out.bel.cell (p := ⟨bb, off + 4 * t, none⟩) hbl]; exact hc (4 * t) (by omega)
      have y1 : wr.cell? ⟨bb, off + 4 * t + 1, none⟩ = some (.int .u8 (bs.getD (4 * t + 1) 0)) := by rw [HW.out.bel.cell (p := ⟨bb, off + 4 * t + 1, none⟩) hbl]; exact hc (4 * t + 1) (by omega)
      have y2 : wr.cell? ⟨bb, off + 4 * t + 2, none⟩ = some (.int .u8 (bs.getD (4 * t + 2) 0)) := by rw [HW.out.bel.cell (p := ⟨bb, off + 4 * t + 2, none⟩) hbl]; exact hc (4 * t + 2) (by omega)
      have y3 : wr.cell? ⟨bb, off + 4 * t + 3, none⟩ = some (.int .u8 (bs.getD (4 * t + 3) 0)) := by rw [HW.out.bel.cell (p := ⟨bb, off + 4 * t + 3, none⟩) hbl]; exact hc (4 * t + 3) (by omega)
      have hO : Oct [bs.getD (4 * t) 0, bs.getD (4 * t + 1) 0, bs.getD (4 * t + 2) 0, bs.getD (4 * t + 3) 0] := fun z hz => by
        simp only [List.mem_cons, List.not_mem_nil, or_false] at hz
        rcases hz with rfl | rfl | rfl | rfl <;> exact HRB.out.oct.getD _
      have WR := write_any (HW.out.fs.kp ((Kp.refl [] wr).drew) (by simp) (by simp)) (HW.out.le.ok (by omega)) (K1 : Int) (K2 : Int) _ _ _ _ hO
      have nB : bb ∉ [p, B] := by have := HW.out.new; simp; omega
      generalize bs.getD (4 * t) 0 = b0 at *
      generalize bs.getD (4 * t + 1) 0 = b1 at *
      generalize bs.getD (4 * t + 2) 0 = b2 at *
      generalize bs.getD (4 * t + 3) 0 = b3 at *
      clear hc hO hbl
      go_wp2_with fail
      refine wp_region_held_drew (S := fun y => y.cell? ⟨bb, off + 4 * t, none⟩ = some (.int .u8 b0) ∧ y.cell? ⟨bb, off + 4 * t + 1, none⟩ = some (.int .u8 b1) ∧ y.cell? ⟨bb, off + 4 * t + 2, none⟩ = some (.int .u8 b2) ∧ y.cell? ⟨bb, off + 4 * t + 3, none⟩ = some (.int .u8 b3)) (by kernel_rfl) (⟨y0, y1, y2, y3⟩) (fun hHeld => ?_)
      refine wpAnyH_take (i := 0) (v := (.pointer (some ⟨p, 0, none⟩))) rfl (by kernel_rfl) (by kernel_rfl) (by kernel_rfl) (fun _ _ _ h => h) (Or.inl ⟨by rfl, ?_⟩) (by assumption) ?_
      · intro w9 hSw
        try dsimp only at hSw
        go_simp
        all_goals try decide
        all_goals try assumption
        all_goals try omega
      try simp only [Act.put, List.getElem_toArray, List.getElem_cons_succ, List.getElem_cons_zero, List.setIfInBounds_toArray, List.set_cons_zero, List.set_cons_succ]
      refine wpAnyH_take (i := 1) (v := (.int .i64 (K : Int))) rfl (by kernel_rfl) (by kernel_rfl) (by kernel_rfl) (fun _ _ _ h => h) (Or.inl ⟨by rfl, ?_⟩) (by assumption) ?_
      · intro w9 hSw
        try dsimp only at hSw
        go_simp
        all_goals try decide
        all_goals try assumption
        all_goals (rw [show RowKit.wrap64 ((F : Int) + (t : Int)) = (F : Int) + (t : Int) from by unfold RowKit.wrap64; omega]; exact kE)
      try simp only [Act.put, List.getElem_toArray, List.getElem_cons_succ, List.getElem_cons_zero, List.setIfInBounds_toArray, List.set_cons_zero, List.set_cons_succ]
      refine wpAnyH_take (i := 2) (v := (.int .i64 (K1 : Int))) rfl (by kernel_rfl) (by kernel_rfl) (by kernel_rfl) (fun _ _ _ h => h) (Or.inl ⟨by rfl, ?_⟩) (by assumption) ?_
      · intro w9 hSw
        try dsimp only at hSw
        go_simp
        all_goals try decide
        all_goals try assumption
        all_goals try omega
      try simp only [Act.put, List.getElem_toArray, List.getElem_cons_succ, List.getElem_cons_zero, List.setIfInBounds_toArray, List.set_cons_zero, List.set_cons_succ]
      refine wpAnyH_take (i := 3) (v := (.int .i64 (K : Int))) rfl (by kernel_rfl) (by kernel_rfl) (by kernel_rfl) (fun _ _ _ h => h) (Or.inl ⟨by rfl, ?_⟩) (by assumption) ?_
      · intro w9 hSw
        try dsimp only at hSw
        go_simp
        all_goals try decide
        all_goals try assumption
        all_goals (rw [show RowKit.wrap64 ((F : Int) + (t : Int)) = (F : Int) + (t : Int) from by unfold RowKit.wrap64; omega]; exact kE)
      try simp only [Act.put, List.getElem_toArray, List.getElem_cons_succ, List.getElem_cons_zero, List.setIfInBounds_toArray, List.set_cons_zero, List.set_cons_succ]
      refine wpAnyH_take (i := 4) (v := (.int .i64 (K2 : Int))) rfl (by kernel_rfl) (by kernel_rfl) (by kernel_rfl) (fun _ _ _ h => h) (Or.inl ⟨by rfl, ?_⟩) (by assumption) ?_
      · intro w9 hSw
        try dsimp only at hSw
        go_simp
        all_goals try decide
        all_goals try assumption
        all_goals try omega
      try simp only [Act.put, List.getElem_toArray, List.getElem_cons_succ, List.getElem_cons_zero, List.setIfInBounds_toArray, List.set_cons_zero, List.set_cons_succ]
      refine wpAnyH_take (i := 5) (v := (.slice (some ⟨bb, off, none⟩) lb cb)) rfl (by kernel_rfl) (by kernel_rfl) (by kernel_rfl) (fun _ _ _ h => h) (Or.inl ⟨by rfl, ?_⟩) (by assumption) ?_
      · intro w9 hSw
        try dsimp only at hSw
        go_simp
        all_goals try decide
        all_goals try assumption
        all_goals try omega
      try simp only [Act.put, List.getElem_toArray, List.getElem_cons_succ, List.getElem_cons_zero, List.setIfInBounds_toArray, List.set_cons_zero, List.set_cons_succ]
      refine wpAnyH_take (i := 6) (v := (.int .i64 (4 * t : Int))) rfl (by kernel_rfl) (by kernel_rfl) (by kernel_rfl) (fun _ _ _ h => h) (Or.inl ⟨by rfl, ?_⟩) (by assumption) ?_
      · intro w9 hSw
        try dsimp only at hSw
        go_simp
        all_goals try decide
        all_goals try assumption
        all_goals try omega
      try simp only [Act.put, List.getElem_toArray, List.getElem_cons_succ, List.getElem_cons_zero, List.setIfInBounds_toArray, List.set_cons_zero, List.set_cons_succ]
      refine wpAnyH_take (i := 7) (v := (.pointer (some ⟨bb, off + 4 * t, none⟩))) rfl (by kernel_rfl) (by kernel_rfl) (by kernel_rfl) (fun _ _ _ h => h) (Or.inl ⟨by rfl, ?_⟩) (by assumption) ?_
      · intro w9 hSw
        try dsimp only at hSw
        go_simp
        rw [if_pos (by omega), show (4 * (t : Int)).toNat = 4 * t from by omega]
      try simp only [Act.put, List.getElem_toArray, List.getElem_cons_succ, List.getElem_cons_zero, List.setIfInBounds_toArray, List.set_cons_zero, List.set_cons_succ]
      refine wpAnyH_take (i := 8) (v := (.int .u8 b0)) rfl (by kernel_rfl) (by kernel_rfl) (by kernel_rfl) (fun _ _ _ h => h) (Or.inl ⟨by rfl, ?_⟩) (by assumption) ?_
      · intro w9 hSw
        try dsimp only at hSw
        obtain ⟨hS0, hS1, hS2, hS3⟩ := hSw
        go_simp
        all_goals try decide
        all_goals try assumption
        all_goals try omega
      try simp only [Act.put, List.getElem_toArray, List.getElem_cons_succ, List.getElem_cons_zero, List.setIfInBounds_toArray, List.set_cons_zero, List.set_cons_succ]
      refine wpAnyH_take (i := 9) (v := (.slice (some ⟨bb, off, none⟩) lb cb)) rfl (by kernel_rfl) (by kernel_rfl) (by kernel_rfl) (fun _ _ _ h => h) (Or.inl ⟨by rfl, ?_⟩) (by assumption) ?_
      · intro w9 hSw
        try dsimp only at hSw
        go_simp
        all_goals try decide
        all_goals try assumption
        all_goals try omega
      try simp only [Act.put, List.getElem_toArray, List.getElem_cons_succ, List.getElem_cons_zero, List.setIfInBounds_toArray, List.set_cons_zero, List.set_cons_succ]
      refine wpAnyH_take (i := 10) (v := (.int .i64 (4 * t : Int))) rfl (by kernel_rfl) (by kernel_rfl) (by kernel_rfl) (fun _ _ _ h => h) (Or.inl ⟨by rfl, ?_⟩) (by assumption) ?_
      · intro w9 hSw
        try dsimp only at hSw
        go_simp
        all_goals try decide
        all_goals try assumption
        all_goals try omega
      try simp only [Act.put, List.getElem_toArray, List.getElem_cons_succ, List.getElem_cons_zero, List.setIfInBounds_toArray, List.set_cons_zero, List.set_cons_succ]
      refine wpAnyH_take (i := 11) (v := (.int .i64 (4 * t + 1 : Int))) rfl (by kernel_rfl) (by kernel_rfl) (by kernel_rfl) (fun _ _ _ h => h) (Or.inl ⟨by rfl, ?_⟩) (by assumption) ?_
      · intro w9 hSw
        try dsimp only at hSw
        go_simp
        all_goals try decide
        all_goals try assumption
        all_goals try omega
      try simp only [Act.put, List.getElem_toArray, List.getElem_cons_succ, List.getElem_cons_zero, List.setIfInBounds_toArray, List.set_cons_zero, List.set_cons_succ]
      refine wpAnyH_take (i := 12) (v := (.pointer (some ⟨bb, off + 4 * t + 1, none⟩))) rfl (by kernel_rfl) (by kernel_rfl) (by kernel_rfl) (fun _ _ _ h => h) (Or.inl ⟨by rfl, ?_⟩) (by assumption) ?_
      · intro w9 hSw
        try dsimp only at hSw
        go_simp
        rw [if_pos (by omega), show (4 * (t : Int) + 1).toNat = 4 * t + 1 from by omega, ← Nat.add_assoc]
      try simp only [Act.put, List.getElem_toArray, List.getElem_cons_succ, List.getElem_cons_zero, List.setIfInBounds_toArray, List.set_cons_zero, List.set_cons_succ]
      refine wpAnyH_take (i := 13) (v := (.int .u8 b1)) rfl (by kernel_rfl) (by kernel_rfl) (by kernel_rfl) (fun _ _ _ h => h) (Or.inl ⟨by rfl, ?_⟩) (by assumption) ?_
      · intro w9 hSw
        try dsimp only at hSw
        obtain ⟨hS0, hS1, hS2, hS3⟩ := hSw
        go_simp
        all_goals try decide
        all_goals try assumption
        all_goals try omega
      try simp only [Act.put, List.getElem_toArray, List.getElem_cons_succ, List.getElem_cons_zero, List.setIfInBounds_toArray, List.set_cons_zero, List.set_cons_succ]
      refine wpAnyH_take (i := 14) (v := (.slice (some ⟨bb, off, none⟩) lb cb)) rfl (by kernel_rfl) (by kernel_rfl) (by kernel_rfl) (fun _ _ _ h => h) (Or.inl ⟨by rfl, ?_⟩) (by assumption) ?_
      · intro w9 hSw
        try dsimp only at hSw
        go_simp
        all_goals try decide
        all_goals try assumption
        all_goals try omega
      try simp only [Act.put, List.getElem_toArray, List.getElem_cons_succ, List.getElem_cons_zero, List.setIfInBounds_toArray, List.set_cons_zero, List.set_cons_succ]
      refine wpAnyH_take (i := 15) (v := (.int .i64 (4 * t : Int))) rfl (by kernel_rfl) (by kernel_rfl) (by kernel_rfl) (fun _ _ _ h => h) (Or.inl ⟨by rfl, ?_⟩) (by assumption) ?_
      · intro w9 hSw
        try dsimp only at hSw
        go_simp
        all_goals try decide
        all_goals try assumption
        all_goals try omega
      try simp only [Act.put, List.getElem_toArray, List.getElem_cons_succ, List.getElem_cons_zero, List.setIfInBounds_toArray, List.set_cons_zero, List.set_cons_succ]
      refine wpAnyH_take (i := 16) (v := (.int .i64 (4 * t + 2 : Int))) rfl (by kernel_rfl) (by kernel_rfl) (by kernel_rfl) (fun _ _ _ h => h) (Or.inl ⟨by rfl, ?_⟩) (by assumption) ?_
      · intro w9 hSw
        try dsimp only at hSw
        go_simp
        all_goals try decide
        all_goals try assumption
        all_goals try omega
      try simp only [Act.put, List.getElem_toArray, List.getElem_cons_succ, List.getElem_cons_zero, List.setIfInBounds_toArray, List.set_cons_zero, List.set_cons_succ]
      refine wpAnyH_take (i := 17) (v := (.pointer (some ⟨bb, off + 4 * t + 2, none⟩))) rfl (by kernel_rfl) (by kernel_rfl) (by kernel_rfl) (fun _ _ _ h => h) (Or.inl ⟨by rfl, ?_⟩) (by assumption) ?_
      · intro w9 hSw
        try dsimp only at hSw
        go_simp
        rw [if_pos (by omega), show (4 * (t : Int) + 2).toNat = 4 * t + 2 from by omega, ← Nat.add_assoc]
      try simp only [Act.put, List.getElem_toArray, List.getElem_cons_succ, List.getElem_cons_zero, List.setIfInBounds_toArray, List.set_cons_zero, List.set_cons_succ]
      refine wpAnyH_take (i := 18) (v := (.int .u8 b2)) rfl (by kernel_rfl) (by kernel_rfl) (by kernel_rfl) (fun _ _ _ h => h) (Or.inl ⟨by rfl, ?_⟩) (by assumption) ?_
      · intro w9 hSw
        try dsimp only at hSw
        obtain ⟨hS0, hS1, hS2, hS3⟩ := hSw
        go_simp
        all_goals try decide
        all_goals try assumption
        all_goals try omega
      try simp only [Act.put, List.getElem_toArray, List.getElem_cons_succ, List.getElem_cons_zero, List.setIfInBounds_toArray, List.set_cons_zero, List.set_cons_succ]
      refine wpAnyH_take (i := 19) (v := (.slice (some ⟨bb, off, none⟩) lb cb)) rfl (by kernel_rfl) (by kernel_rfl) (by kernel_rfl) (fun _ _ _ h => h) (Or.inl ⟨by rfl, ?_⟩) (by assumption) ?_
      · intro w9 hSw
        try dsimp only at hSw
        go_simp
        all_goals try decide
        all_goals try assumption
        all_goals try omega
      try simp only [Act.put, List.getElem_toArray, List.getElem_cons_succ, List.getElem_cons_zero, List.setIfInBounds_toArray, List.set_cons_zero, List.set_cons_succ]
      refine wpAnyH_take (i := 20) (v := (.int .i64 (4 * t : Int))) rfl (by kernel_rfl) (by kernel_rfl) (by kernel_rfl) (fun _ _ _ h => h) (Or.inl ⟨by rfl, ?_⟩) (by assumption) ?_
      · intro w9 hSw
        try dsimp only at hSw
        go_simp
        all_goals try decide
        all_goals try assumption
        all_goals try omega
      try simp only [Act.put, List.getElem_toArray, List.getElem_cons_succ, List.getElem_cons_zero, List.setIfInBounds_toArray, List.set_cons_zero, List.set_cons_succ]
      refine wpAnyH_take (i := 21) (v := (.int .i64 (4 * t + 3 : Int))) rfl (by kernel_rfl) (by kernel_rfl) (by kernel_rfl) (fun _ _ _ h => h) (Or.inl ⟨by rfl, ?_⟩) (by assumption) ?_
      · intro w9 hSw
        try dsimp only at hSw
        go_simp
        all_goals try decide
        all_goals try assumption
        all_goals try omega
      try simp only [Act.put, List.getElem_toArray, List.getElem_cons_succ, List.getElem_cons_zero, List.setIfInBounds_toArray, List.set_cons_zero, List.set_cons_succ]
      refine wpAnyH_take (i := 22) (v := (.pointer (some ⟨bb, off + 4 * t + 3, none⟩))) rfl (by kernel_rfl) (by kernel_rfl) (by kernel_rfl) (fun _ _ _ h => h) (Or.inl ⟨by rfl, ?_⟩) (by assumption) ?_
      · intro w9 hSw
        try dsimp only at hSw
        go_simp
        rw [if_pos (by omega), show (4 * (t : Int) + 3).toNat = 4 * t + 3 from by omega, ← Nat.add_assoc]
      try simp only [Act.put, List.getElem_toArray, List.getElem_cons_succ, List.getElem_cons_zero, List.setIfInBounds_toArray, List.set_cons_zero, List.set_cons_succ]
      refine wpAnyH_take (i := 23) (v := (.int .u8 b3)) rfl (by kernel_rfl) (by kernel_rfl) (by kernel_rfl) (fun _ _ _ h => h) (Or.inl ⟨by rfl, ?_⟩) (by assumption) ?_
      · intro w9 hSw
        try dsimp only at hSw
        obtain ⟨hS0, hS1, hS2, hS3⟩ := hSw
        go_simp
        all_goals try decide
        all_goals try assumption
        all_goals try omega
      try simp only [Act.put, List.getElem_toArray, List.getElem_cons_succ, List.getElem_cons_zero, List.setIfInBounds_toArray, List.set_cons_zero, List.set_cons_succ]
      refine wpAnyH_take (i := 24) (v := (.agg #[.int .u8 b0, .int .u8 b1, .int .u8 b2, .int .u8 b3])) rfl (by kernel_rfl) (by kernel_rfl) (by kernel_rfl) (fun _ _ _ h => h) (Or.inl ⟨by rfl, ?_⟩) (by assumption) ?_
      · intro w9 hSw
        try dsimp only at hSw
        go_simp
        all_goals try decide
        all_goals try assumption
        all_goals try omega
      try simp only [Act.put, List.getElem_toArray, List.getElem_cons_succ, List.getElem_cons_zero, List.setIfInBounds_toArray, List.set_cons_zero, List.set_cons_succ]
      refine wpAnyH_ready (rs := [25]) (by kernel_rfl) (by simp) ?_
      refine AllReadyH.cons rfl (fun K' hK => ?_) AllReadyH.nil
      rw [if_pos (by rfl)]
      simp only [List.getElem_toArray, List.getElem_cons_succ, List.getElem_cons_zero]
      go_wp2_with fail
      refine (WR).mono ?_
      rintro e V ⟨rfl, hF2, hK2⟩
      have KV : Kp [p, B] wr V := ((Kp.refl _ _).drew).trans hK2
      have HNX : Hid (WS w V p B (s.write 3 K1 K2 b0 b1 b2 b3).2 (t + 1)) := HW.out.write hF2 KV
      try go_wp2_with fail
      refine hK.out _ _ (⟨KV.cell y0 nB, KV.cell y1 nB, KV.cell y2 nB, KV.cell y3 nB⟩) (fun hHeld => ?_)
      clear hK K'
      try simp only [Act.put, List.getElem_toArray, List.getElem_cons_succ, List.getElem_cons_zero, List.setIfInBounds_toArray, List.set_cons_zero, List.set_cons_succ]
      refine wpAnyH_done (by kernel_rfl) ?_ _
      clear y0 y1 y2 y3 WR
      go_wp2_with fail
      exact ⟨⟨t + 1, _, by omega, by go_num, HNX.out⟩, by simp [intOf]; omega⟩
    · have gl : ¬ (4 * t : Int) + 4 ≤ (lb : Int) := by omega
      have hl9 := HW.out.fs.lt
      have OP := open_ok HW.out.fs HW.out.of 0 3 (by omega) (by omega) [p, B] (by simp; omega)
      rw [show ((0 : Nat) : Int) = 0 from rfl, show ((3 : Nat) : Int) = 3 from rfl, show 3 / 2 = 1 from rfl] at OP
      go_wp2_with fail
      with_reducible refine OP.mono ?_
      rintro e V ⟨⟨q, rfl, hq, hJ⟩, hbV⟩
      clear OP
      have hJat : Jat V [q, p, B] q p B 3 0 1 (opn s.cs 0 1) s := Jat.opened (count := 3) HW.out.fs hbV hq hJ (by omega) (by omega) (by simp) (by simp) (by simp; omega)
      have hcut : (opn s.cs 0 1).cut = false := (Go.Proofs.Ytgpbmccjcjoijaa.opened (first := 0) (count := 3) HW.out.fs.oct HW.out.fs.len (by omega) (by omega)).2
      have hdr := (opn_drop HW.out.fs.oct 0 1).1
      generalize (opn s.cs 0 1) = J at *
      have HJ : Hid (Jat V [q, p, B] q p B 3 0 1 J s) := hJat
      have HFV : Hid (IsS V p B 3 3 s) := HW.out.fs.next hbV
      have HBV : Hid (Below w.heap.size w V) := Below.andThen HW.out.bel hbV
      have HNEW : Hid (∀ y ∈ [p, B, q], w.heap.size ≤ y) := fun y hy => by have h1 := HW.out.new; have h2 := HW.out.bel.size; simp at hy; omega
      have Hdr : Hid (dropG J.all = J.all) := hdr
      obtain ⟨ss, hJB, hG⟩ := hJat.js
      have GR := groups_any hJB hG.n1 hG.n2
      obtain ⟨L, hL⟩ : ∃ L, Hid (grpN J.all 0 = L) := ⟨_, rfl⟩
      rw [hL.out] at GR
      have hLl : L.length ≤ 16 := by have := grpN_len J.all 0; rw [hL.out, hG.n1] at this; exact this
      have hJcut : Hid (J.cut = false) := hcut
      clear hJ hbV hJat hdr hJB hG hcut
      go_wp2_with fail
      with_reducible refine GR.mono ?_
      rintro e U2 ⟨⟨al, cl, rfl, hTl⟩, hbU⟩
      clear GR
      obtain ⟨gl, hgl, hRl⟩ := Rest.of hTl
      have HRl : Hid (0 < L.length → al = some ⟨gl, 0, none⟩ ∧ gl < U2.heap.size ∧ Rest U2 gl 0 L) := hRl
      have HglS : Hid (gl ∉ [p, B, q]) := fun hm => by have := HJ.out.lt gl (by simp at hm ⊢; omega); omega
      have HBU : Hid (Below w.heap.size w U2) := Below.andThen HBV.out hbU
      have HJU : Hid (Jat U2 [q, p, B] q p B 3 0 1 J s) := HJ.out.next hbU
      have HFU : Hid (IsS U2 p B 3 3 s) := HFV.out.next hbU
      obtain ⟨G, hG⟩ : ∃ G : Nat, Hid (gr.tmod 16 = (G : Int) ∧ G < 16) := ⟨(gr % 16).toNat, by rw [Int.tmod_eq_emod_of_nonneg hgr.1]; omega, by omega⟩
      have gE := hG.out.1
      have gL := hG.out.2
      have ST := store_any HFU.out t HW.out.le (by omega) HJU.out.js HJU.out.op.ok HJU.out.qp HJU.out.qB (by omega) (by omega) (by omega) HJU.out.pS HJU.out.BS HJU.out.qS HJU.out.lt (G : Int) (by omega) xs ax xs.length cx (HRX.out.next HBU.out) (by omega) (fun hp b off e hm => absurd (HNEW.out b (by simp at hm ⊢; omega)) (by have := HRX.out.old hp b off e; omega))
      have DN := storeJ_res HJU.out.op hJcut.out HW.out.of (G : Int) (by omega) xs HRX.out.oct
      have HM16 : Hid (¬ (16 : Int) ≤ (G : Int) ∧ ¬ 4096 < xs.length) := ⟨by omega, by omega⟩
      clear hTl hbU hRl
      obtain ⟨R, hR⟩ : ∃ R, Hid (storeJ 3 0 1 J (G : Int) xs s = R) := ⟨_, rfl⟩
      rw [hR.out] at ST DN
      rcases DN with hD | ⟨_, _, _, _, _, _, h7⟩
      rotate_left
      · rw [HW.out.ar] at h7; cases h7
      have HD : Hid (R.1 = (mStore 1 J.all (G : Int) xs).1 ∧ R.2.1.all = (mStore 1 J.all (G : Int) xs).2 ∧ Open 3 0 1 R.2.1 R.2.2 ∧ R.2.2.of = false) := ⟨hD.1, hD.2.1, hD.2.2.2.1, hD.2.2.2.2.2.1⟩
      clear hD hR
      obtain ⟨E, J2, s2⟩ := R
      by_cases hfull : 1024 * 1 < roomG (take1 J.all ⟨2, (G : Int), xs⟩) + 16
      · have hMS : mStore 1 J.all (G : Int) xs = (60, J.all) := by unfold mStore; rw [if_neg HM16.out.1, if_neg HM16.out.2, if_pos hfull]
        rw [hMS] at HD
        obtain ⟨hE, hA2, hO2, hof2⟩ := HD.out
        dsimp only at hE hA2 hO2 hof2
        subst hE
        have Hal : Hid (J2.all = J.all) := hA2
        have Hdr2 : Hid (dropG (J.all) = J.all) := Hdr.out
        have HMEM : Hid (∀ v ∈ L, ∃ i g, (J.all)[i]? = some g ∧ g.there = true ∧ v = ((i : Nat) : Int)) := fun v hv => by
          rw [← hL.out] at hv
          obtain ⟨i, g, e, t, ev⟩ := grpN_mem J.all 0 v hv
          rw [Nat.zero_add] at ev
          exact ⟨i, g, e, t, ev⟩
        have HO2 : Hid (Open 3 0 1 J2 s2) := hO2
        clear hA2 hO2 HD hMS
        go_wp2_with fail
        with_reducible refine ST.mono ?_
        rintro e Z ⟨rfl, zF, zJ, zK⟩
        clear ST
        have HBZ : Hid (Below w.heap.size w Z) := zK.below HBU.out HBU.out.size HNEW.out
        have HRZ : Hid (0 < L.length → al = some ⟨gl, 0, none⟩ ∧ Rest Z gl 0 L) := fun h => by
          obtain ⟨h1, h2, h3⟩ := HRl.out h
          exact ⟨h1, h3.kp zK h2 HglS.out⟩
        have HJZ : Hid (IsJ Z [q, p, B] q p 0 1 J2) := zJ
        have ltZ := zF.lt
        have OP := open_ok zF hof2 0 3 (by omega) (by omega) [p, B] (by simp; omega)
        rw [show ((0 : Nat) : Int) = 0 from rfl, show ((3 : Nat) : Int) = 3 from rfl, show 3 / 2 = 1 from rfl] at OP
        dsimp only at OP
        clear zF zJ zK
        go_wp2_with fail
        with_reducible refine OP.mono ?_
        rintro e V2 ⟨⟨q2, rfl, hq2, hJ2⟩, hbV2⟩
        clear OP
        have hK2a : (opn s2.cs 0 1).all = J.all := by rw [HO2.out.again, Hal.out, Hdr2.out]
        generalize (opn s2.cs 0 1) = K2 at *
        have HALL : Hid (J2.all = J.all ∧ K2.all = J.all) := ⟨Hal.out, hK2a⟩
        have HBV2 : Hid (Below w.heap.size w V2) := Below.andThen HBZ.out hbV2
        have HRV2 : Hid (0 < L.length → al = some ⟨gl, 0, none⟩ ∧ Rest V2 gl 0 L) := fun h => by
          obtain ⟨h1, h3⟩ := HRZ.out h
          exact ⟨h1, h3.below hbV2 (h3.lt h)⟩
        have HJV2 : Hid (IsJ V2 [q, p, B] q p 0 1 J2) := HJZ.out.next hbV2
        have HKV2 : Hid (IsJ V2 [q2, p, B] q2 p 0 1 K2) := hJ2
        obtain ⟨s5, hJB5, hG5⟩ := hJ2
        clear hbV2
        obtain ⟨gG, hgG⟩ : ∃ gG, J.all[G]? = some gG := ⟨_, HJ.out.op.grp.at gL⟩
        cases hth : gG.there with
        | true =>
          have LY := load_yes hJB5 hG5 G gG (by rw [hK2a]; exact hgG) hth
          clear hJB5 hG5
          go_wp2_with fail
          with_reducible refine LY.mono ?_
          rintro e VX ⟨⟨a4, c4, rfl, hT4⟩, hb4⟩
          clear LY
          have HBX : Below w.heap.size w VX := Below.andThen HBV2.out hb4
          have HJX := HJV2.out.next hb4
          have HKX := HKV2.out.next hb4
          have HLX : 0 < L.length → al = some ⟨gl, 0, none⟩ ∧ Rest VX gl 0 L := fun h => by
            obtain ⟨h1, h3⟩ := HRV2.out h
            exact ⟨h1, h3.below hb4 (h3.lt h)⟩
          clear hT4 hb4
          have HVX : Hid (Below w.heap.size w VX) := HBX
          have HJq : Hid (IsJ VX [q, p, B] q p 0 1 J2) := HJX
          have HJk : Hid (IsJ VX [q2, p, B] q2 p 0 1 K2) := HKX
          have HRL : Hid (0 < L.length → al = some ⟨gl, 0, none⟩ ∧ Rest VX gl 0 L) := HLX
          clear HBX HJX HKX HLX
          go_wp2_with fail
          go_loopw [22] (fun vn wr => ∃ n : Nat, n ≤ L.length ∧ vn = .int .i64 n ∧ Below VX.heap.size VX wr) (fun vn _ => L.length - (intOf vn).toNat)
          case atStart => exact ⟨0, by omega, rfl, Below.refl _ _⟩
          case round =>
            obtain ⟨n, hn, rfl, hbw⟩ := hrel
            have HBW : Hid (Below VX.heap.size VX wr) := hbw
            by_cases hnl : n < L.length
            · have gn : (n : Int) < (L.length : Int) := by omega
              have gn0 : (0 : Int) ≤ n := by omega
              obtain ⟨rfl, hRest⟩ := HRL.out (by omega)
              have hgl2 : gl < VX.heap.size := hRest.lt (by omega)
              have hRw := hRest.below hbw hgl2
              have y0 := hRw.at_ n (Nat.zero_le _) hnl
              obtain ⟨ii, gg, hgg, hgt, hgv⟩ := HMEM.out (L.getD n 0) (by rw [List.getD_eq_getElem?_getD, List.getElem?_eq_getElem hnl]; exact List.getElem_mem _)
              rw [hgv] at y0
              obtain ⟨s1, hJB1, hG1⟩ := HJq.out.next hbw
              have LY1 := load_yes hJB1 hG1 ii gg (by rw [HALL.out.1]; exact hgg) hgt
              have HJkw : Hid (IsJ wr [q2, p, B] q2 p 0 1 K2) := HJk.out.next hbw
              have HRw : Hid (Rest wr gl 0 L) := hRw
              have hglw : gl < wr.heap.size := hRw.lt (by omega)
              clear hRest hRw hJB1 hG1 hbw
              go_wp2_with fail
              with_reducible refine LY1.mono ?_
              rintro e Q1 ⟨⟨a5, c5, rfl, hT5⟩, hb5⟩
              clear LY1
              have y0 := (HRw.out.below hb5 hglw).at_ n (Nat.zero_le _) hnl
              rw [hgv] at y0
              obtain ⟨s2, hJB2, hG2⟩ := HJkw.out.next hb5
              have LY2 := load_yes hJB2 hG2 ii gg (by rw [HALL.out.2]; exact hgg) hgt
              have HT5 : Hid (Row Q1 a5 gg.bs.length gg.bs) := hT5.row
              have HB5 : Hid (Below VX.heap.size VX Q1) := Below.andThen HBW.out hb5
              clear hJB2 hG2 hT5 hb5
              go_wp2_with fail
              with_reducible refine LY2.mono ?_
              rintro e Q2 ⟨⟨a6, c6, rfl, hT6⟩, hb6⟩
              clear LY2
              have CV5 := (HT5.out.next hb6).str c5
              have CV6 := hT6.row.str c6
              have HB6 : Hid (Below VX.heap.size VX Q2) := Below.andThen HB5.out hb6
              have z1 : ((strOfNums gg.bs).toList == (strOfNums gg.bs).toList) = true := by simp
              have z2 : ((strOfNums gg.bs).toList != (strOfNums gg.bs).toList) = false := by simp
              generalize strOfNums gg.bs = st at *
              clear hT6 hb6
              go_wp2_with fail
              exact ⟨⟨n + 1, by omega, by go_num, HB6.out⟩, by simp [intOf]; omega⟩
            · have gn : ¬ (n : Int) < (L.length : Int) := by omega
              have WK := works_any wr
              have HB7 : Hid (Below w.heap.size w wr) := Below.andThen HVX.out hbw
              clear hbw
              go_wp2_with fail
              with_reducible refine WK.mono ?_
              rintro e Q3 ⟨rfl, hb8⟩
              clear WK
              have HB8 : Hid (Below w.heap.size w Q3) := Below.andThen HB7.out hb8
              clear hb8
              go_wp2_with fail
              go_ret
              exact ⟨rfl, HB8.out⟩
        | false =>
          have LN := load_no hJB5 hG5.n1 hG5.n2 G gG (by rw [hK2a]; exact hgG) hth
          clear hJB5 hG5
          go_wp2_with fail
          with_reducible refine LN.mono ?_
          rintro e VX ⟨rfl, hVX⟩
          clear LN
          have hb4 : Below V2.heap.size V2 VX := by rw [hVX]; exact Below.refl _ _
          have HBX : Below w.heap.size w VX := Below.andThen HBV2.out hb4
          have HJX := HJV2.out.next hb4
          have HKX := HKV2.out.next hb4
          have HLX : 0 < L.length → al = some ⟨gl, 0, none⟩ ∧ Rest VX gl 0 L := fun h => by
            obtain ⟨h1, h3⟩ := HRV2.out h
            exact ⟨h1, h3.below hb4 (h3.lt h)⟩
          clear hb4 hVX
          have HVX : Hid (Below w.heap.size w VX) := HBX
          have HJq : Hid (IsJ VX [q, p, B] q p 0 1 J2) := HJX
          have HJk : Hid (IsJ VX [q2, p, B] q2 p 0 1 K2) := HKX
          have HRL : Hid (0 < L.length → al = some ⟨gl, 0, none⟩ ∧ Rest VX gl 0 L) := HLX
          clear HBX HJX HKX HLX
          go_wp2_with fail
          go_loopw [22] (fun vn wr => ∃ n : Nat, n ≤ L.length ∧ vn = .int .i64 n ∧ Below VX.heap.size VX wr) (fun vn _ => L.length - (intOf vn).toNat)
          case atStart => exact ⟨0, by omega, rfl, Below.refl _ _⟩
          case round =>
            obtain ⟨n, hn, rfl, hbw⟩ := hrel
            have HBW : Hid (Below VX.heap.size VX wr) := hbw
            by_cases hnl : n < L.length
            · have gn : (n : Int) < (L.length : Int) := by omega
              have gn0 : (0 : Int) ≤ n := by omega
              obtain ⟨rfl, hRest⟩ := HRL.out (by omega)
              have hgl2 : gl < VX.heap.size := hRest.lt (by omega)
              have hRw := hRest.below hbw hgl2
              have y0 := hRw.at_ n (Nat.zero_le _) hnl
              obtain ⟨ii, gg, hgg, hgt, hgv⟩ := HMEM.out (L.getD n 0) (by rw [List.getD_eq_getElem?_getD, List.getElem?_eq_getElem hnl]; exact List.getElem_mem _)
              rw [hgv] at y0
              obtain ⟨s1, hJB1, hG1⟩ := HJq.out.next hbw
              have LY1 := load_yes hJB1 hG1 ii gg (by rw [HALL.out.1]; exact hgg) hgt
              have HJkw : Hid (IsJ wr [q2, p, B] q2 p 0 1 K2) := HJk.out.next hbw
              have HRw : Hid (Rest wr gl 0 L) := hRw
              have hglw : gl < wr.heap.size := hRw.lt (by omega)
              clear hRest hRw hJB1 hG1 hbw
              go_wp2_with fail
              with_reducible refine LY1.mono ?_
              rintro e Q1 ⟨⟨a5, c5, rfl, hT5⟩, hb5⟩
              clear LY1
              have y0 := (HRw.out.below hb5 hglw).at_ n (Nat.zero_le _) hnl
              rw [hgv] at y0
              obtain ⟨s2, hJB2, hG2⟩ := HJkw.out.next hb5
              have LY2 := load_yes hJB2 hG2 ii gg (by rw [HALL.out.2]; exact hgg) hgt
              have HT5 : Hid (Row Q1 a5 gg.bs.length gg.bs) := hT5.row
              have HB5 : Hid (Below VX.heap.size VX Q1) := Below.andThen HBW.out hb5
              clear hJB2 hG2 hT5 hb5
              go_wp2_with fail
              with_reducible refine LY2.mono ?_
              rintro e Q2 ⟨⟨a6, c6, rfl, hT6⟩, hb6⟩
              clear LY2
              have CV5 := (HT5.out.next hb6).str c5
              have CV6 := hT6.row.str c6
              have HB6 : Hid (Below VX.heap.size VX Q2) := Below.andThen HB5.out hb6
              have z1 : ((strOfNums gg.bs).toList == (strOfNums gg.bs).toList) = true := by simp
              have z2 : ((strOfNums gg.bs).toList != (strOfNums gg.bs).toList) = false := by simp
              generalize strOfNums gg.bs = st at *
              clear hT6 hb6
              go_wp2_with fail
              exact ⟨⟨n + 1, by omega, by go_num, HB6.out⟩, by simp [intOf]; omega⟩
            · have gn : ¬ (n : Int) < (L.length : Int) := by omega
              have WK := works_any wr
              have HB7 : Hid (Below w.heap.size w wr) := Below.andThen HVX.out hbw
              clear hbw
              go_wp2_with fail
              with_reducible refine WK.mono ?_
              rintro e Q3 ⟨rfl, hb8⟩
              clear WK
              have HB8 : Hid (Below w.heap.size w Q3) := Below.andThen HB7.out hb8
              clear hb8
              go_wp2_with fail
              go_ret
              exact ⟨rfl, HB8.out⟩
      · have hMS : mStore 1 J.all (G : Int) xs = (0, take1 J.all ⟨2, (G : Int), xs⟩) := by unfold mStore; rw [if_neg HM16.out.1, if_neg HM16.out.2, if_neg hfull]
        rw [hMS] at HD
        obtain ⟨hE, hA2, hO2, hof2⟩ := HD.out
        dsimp only at hE hA2 hO2 hof2
        subst hE
        have Hal : Hid (J2.all = take1 J.all ⟨2, (G : Int), xs⟩) := hA2
        have Hdr2 : Hid (dropG (take1 J.all ⟨2, (G : Int), xs⟩) = take1 J.all ⟨2, (G : Int), xs⟩) := by show dropG _ = _; rw [dropG_store, Hdr.out]
        have HMEM : Hid (∀ v ∈ L, ∃ i g, (take1 J.all ⟨2, (G : Int), xs⟩)[i]? = some g ∧ g.there = true ∧ v = ((i : Nat) : Int)) := fun v hv => by
          rw [← hL.out] at hv
          obtain ⟨i, g, e, t, ev⟩ := grpN_mem J.all 0 v hv
          rw [Nat.zero_add] at ev
          obtain ⟨g', e', t'⟩ := take1_there (r := ⟨2, (G : Int), xs⟩) rfl e t
          exact ⟨i, g', e', t', ev⟩
        have HO2 : Hid (Open 3 0 1 J2 s2) := hO2
        clear hA2 hO2 HD hMS
        go_wp2_with fail
        with_reducible refine ST.mono ?_
        rintro e Z ⟨rfl, zF, zJ, zK⟩
        clear ST
        have HBZ : Hid (Below w.heap.size w Z) := zK.below HBU.out HBU.out.size HNEW.out
        have HRZ : Hid (0 < L.length → al = some ⟨gl, 0, none⟩ ∧ Rest Z gl 0 L) := fun h => by
          obtain ⟨h1, h2, h3⟩ := HRl.out h
          exact ⟨h1, h3.kp zK h2 HglS.out⟩
        have HJZ : Hid (IsJ Z [q, p, B] q p 0 1 J2) := zJ
        have ltZ := zF.lt
        have OP := open_ok zF hof2 0 3 (by omega) (by omega) [p, B] (by simp; omega)
        rw [show ((0 : Nat) : Int) = 0 from rfl, show ((3 : Nat) : Int) = 3 from rfl, show 3 / 2 = 1 from rfl] at OP
        dsimp only at OP
        clear zF zJ zK
        go_wp2_with fail
        with_reducible refine OP.mono ?_
        rintro e V2 ⟨⟨q2, rfl, hq2, hJ2⟩, hbV2⟩
        clear OP
        have hK2a : (opn s2.cs 0 1).all = take1 J.all ⟨2, (G : Int), xs⟩ := by rw [HO2.out.again, Hal.out, Hdr2.out]
        generalize (opn s2.cs 0 1) = K2 at *
        have HALL : Hid (J2.all = take1 J.all ⟨2, (G : Int), xs⟩ ∧ K2.all = take1 J.all ⟨2, (G : Int), xs⟩) := ⟨Hal.out, hK2a⟩
        have HBV2 : Hid (Below w.heap.size w V2) := Below.andThen HBZ.out hbV2
        have HRV2 : Hid (0 < L.length → al = some ⟨gl, 0, none⟩ ∧ Rest V2 gl 0 L) := fun h => by
          obtain ⟨h1, h3⟩ := HRZ.out h
          exact ⟨h1, h3.below hbV2 (h3.lt h)⟩
        have HJV2 : Hid (IsJ V2 [q, p, B] q p 0 1 J2) := HJZ.out.next hbV2
        have HKV2 : Hid (IsJ V2 [q2, p, B] q2 p 0 1 K2) := hJ2
        obtain ⟨s5, hJB5, hG5⟩ := hJ2
        clear hbV2
        have hgG : (take1 J.all ⟨2, (G : Int), xs⟩)[G]? = some ⟨true, false, xs⟩ := by
          unfold take1
          rw [if_pos rfl]
          have h16 := HJ.out.op.grp.n16
          exact List.getElem?_set_self (by show G < _; omega)
        have LY := load_yes hJB5 hG5 G ⟨true, false, xs⟩ (by rw [hK2a]; exact hgG) rfl
        dsimp only at LY
        clear hJB5 hG5
        go_wp2_with fail
        with_reducible refine LY.mono ?_
        rintro e VX ⟨⟨a4, c4, rfl, hT4⟩, hb4⟩
        clear LY
        have HBX : Below w.heap.size w VX := Below.andThen HBV2.out hb4
        have HJX := HJV2.out.next hb4
        have HKX := HKV2.out.next hb4
        have HLX : 0 < L.length → al = some ⟨gl, 0, none⟩ ∧ Rest VX gl 0 L := fun h => by
          obtain ⟨h1, h3⟩ := HRV2.out h
          exact ⟨h1, h3.below hb4 (h3.lt h)⟩
        have CV3 := hT4.row.str c4
        have CV4 := (HRX.out.next HBX).str cx
        have z1 : ((strOfNums xs).toList == (strOfNums xs).toList) = true := by simp
        have z2 : ((strOfNums xs).toList != (strOfNums xs).toList) = false := by simp
        generalize strOfNums xs = sx at *
        clear hT4 hb4
        have HVX : Hid (Below w.heap.size w VX) := HBX
        have HJq : Hid (IsJ VX [q, p, B] q p 0 1 J2) := HJX
        have HJk : Hid (IsJ VX [q2, p, B] q2 p 0 1 K2) := HKX
        have HRL : Hid (0 < L.length → al = some ⟨gl, 0, none⟩ ∧ Rest VX gl 0 L) := HLX
        clear HBX HJX HKX HLX
        go_wp2_with fail
        go_loopw [22] (fun vn wr => ∃ n : Nat, n ≤ L.length ∧ vn = .int .i64 n ∧ Below VX.heap.size VX wr) (fun vn _ => L.length - (intOf vn).toNat)
        case atStart => exact ⟨0, by omega, rfl, Below.refl _ _⟩
        case round =>
          obtain ⟨n, hn, rfl, hbw⟩ := hrel
          have HBW : Hid (Below VX.heap.size VX wr) := hbw
          by_cases hnl : n < L.length
          · have gn : (n : Int) < (L.length : Int) := by omega
            have gn0 : (0 : Int) ≤ n := by omega
            obtain ⟨rfl, hRest⟩ := HRL.out (by omega)
            have hgl2 : gl < VX.heap.size := hRest.lt (by omega)
            have hRw := hRest.below hbw hgl2
            have y0 := hRw.at_ n (Nat.zero_le _) hnl
            obtain ⟨ii, gg, hgg, hgt, hgv⟩ := HMEM.out (L.getD n 0) (by rw [List.getD_eq_getElem?_getD, List.getElem?_eq_getElem hnl]; exact List.getElem_mem _)
            rw [hgv] at y0
            obtain ⟨s1, hJB1, hG1⟩ := HJq.out.next hbw
            have LY1 := load_yes hJB1 hG1 ii gg (by rw [HALL.out.1]; exact hgg) hgt
            have HJkw : Hid (IsJ wr [q2, p, B] q2 p 0 1 K2) := HJk.out.next hbw
            have HRw : Hid (Rest wr gl 0 L) := hRw
            have hglw : gl < wr.heap.size := hRw.lt (by omega)
            clear hRest hRw hJB1 hG1 hbw
            go_wp2_with fail
            with_reducible refine LY1.mono ?_
            rintro e Q1 ⟨⟨a5, c5, rfl, hT5⟩, hb5⟩
            clear LY1
            have y0 := (HRw.out.below hb5 hglw).at_ n (Nat.zero_le _) hnl
            rw [hgv] at y0
            obtain ⟨s2, hJB2, hG2⟩ := HJkw.out.next hb5
            have LY2 := load_yes hJB2 hG2 ii gg (by rw [HALL.out.2]; exact hgg) hgt
            have HT5 : Hid (Row Q1 a5 gg.bs.length gg.bs) := hT5.row
            have HB5 : Hid (Below VX.heap.size VX Q1) := Below.andThen HBW.out hb5
            clear hJB2 hG2 hT5 hb5
            go_wp2_with fail
            with_reducible refine LY2.mono ?_
            rintro e Q2 ⟨⟨a6, c6, rfl, hT6⟩, hb6⟩
            clear LY2
            have CV5 := (HT5.out.next hb6).str c5
            have CV6 := hT6.row.str c6
            have HB6 : Hid (Below VX.heap.size VX Q2) := Below.andThen HB5.out hb6
            have z1 : ((strOfNums gg.bs).toList == (strOfNums gg.bs).toList) = true := by simp
            have z2 : ((strOfNums gg.bs).toList != (strOfNums gg.bs).toList) = false := by simp
            generalize strOfNums gg.bs = st at *
            clear hT6 hb6
            go_wp2_with fail
            exact ⟨⟨n + 1, by omega, by go_num, HB6.out⟩, by simp [intOf]; omega⟩
          · have gn : ¬ (n : Int) < (L.length : Int) := by omega
            have WK := works_any wr
            have HB7 : Hid (Below w.heap.size w wr) := Below.andThen HVX.out hbw
            clear hbw
            go_wp2_with fail
            with_reducible refine WK.mono ?_
            rintro e Q3 ⟨rfl, hb8⟩
            clear WK
            have HB8 : Hid (Below w.heap.size w Q3) := Below.andThen HB7.out hb8
            clear hb8
            go_wp2_with fail
            go_ret
            exact ⟨rfl, HB8.out⟩
#print axioms journalAny_any
end Go.Proofs.Ytgpbmccjcjoijaa
