/-
  The walk of the groups' room.
-/
import Derived.Test.YtgpbmccjcjoijaaJg
namespace Go.Proofs.Ytgpbmccjcjoijaa
open Go.RowKit

/-- One of the groups. -/
theorem idx68 (all : List Gp) (ss : List SL) (h1 : all.length = 16) (h2 : ss.length = 16) (i : Nat) (g : Gp) (s : SL) (hg : all[i]? = some g) (hs : ss[i]? = some s) (w : World) :
    (Instr.index 68 (.agg (gflat all ss).toArray) (.int .i64 (i : Int))).run Try.prog w = .ok (.agg #[.bool g.there, .bool g.marked, .slice s.1 g.bs.length s.2]) w := by
  have hi : i < 16 := by
    by_cases hh : i < all.length
    · omega
    · simp [hh] at hg
  have hL := gflat_len all ss (by omega)
  have hp := gflat_part all ss i g s hg hs
  cases hq : Try.prog.info? 66 with
  | none => have := size66; simp [hq] at this
  | some i0 =>
    have hz1 : i0.size = 3 := by have := size66; simpa [hq] using this
    simp [Instr.index, run_underlying Try.underlying68, asIntOf, hi, Go.part, sizeOf, typeInfo, hq, hz1]
    rw [hp]
theorem gflat48 (all : List Gp) (ss : List SL) (h1 : all.length = 16) (h2 : ss.length = 16) : (gflat all ss).length = 48 := by rw [gflat_len all ss (by omega)]; omega
theorem roomG_next (all : List Gp) (i : Nat) (g : Gp) (h : all[i]? = some g) : roomG (all.take (i + 1)) = roomG (all.take i) + gRoom g := by
  have hi : i < all.length := by
    by_cases hh : i < all.length
    · exact hh
    · simp [hh] at h
  have e : all[i] = g := by simpa [hi] using h
  unfold roomG
  rw [List.take_succ_eq_append_getElem hi, List.map_append, List.sum_append, e]
  simp
theorem roomG_le (all : List Gp) (h : ∀ g ∈ all, g.bs.length ≤ 4096) : roomG all ≤ 4112 * all.length := by
  unfold roomG
  induction all with
  | nil => simp
  | cons g l ih =>
    have h1 := ih (fun q hq => h q (by simp [hq]))
    have h2 : gRoom g ≤ 4112 := by
      unfold gRoom
      split
      · have := rm_lt g.bs.length; have := h g (by simp); omega
      · omega
    simp
    omega
theorem IsG.le {w : World} {S : List Nat} {all : List Gp} {ss : List SL} (h : IsG w S all ss) : ∀ g ∈ all, g.bs.length ≤ 4096 := fun g hg => by
  obtain ⟨i, hi, rfl⟩ := List.getElem_of_mem hg
  have h2 : i < ss.length := by have := h.n1; have := h.n2; omega
  exact (h.row i all[i] ss[i] (by simp [hi]) (by simp [h2])).2.1

set_option linter.unusedSimpArgs false in
set_option maxHeartbeats 4000000 in
set_option maxRecDepth 100000 in
theorem groom_any (all : List Gp) (ss : List SL) (h1 : all.length = 16) (h2 : ss.length = 16) (hl : ∀ g ∈ all, g.bs.length ≤ 4096) (w : World) :
    Calls Try.prog 38 #[.agg (gflat all ss).toArray] w fun e w' => e = .returned (.int .i64 (roomG all : Nat)) ∧ Below w.heap.size w w' := by
  have IX : ∀ (i : Nat) (hi : i < 16) (W : World), (Instr.index 68 (.agg (gflat all ss).toArray) (.int .i64 (i : Int))).run Try.prog W = .ok (.agg #[.bool (all[i]'(by omega)).there, .bool (all[i]'(by omega)).marked, .slice (ss[i]'(by omega)).1 (all[i]'(by omega)).bs.length (ss[i]'(by omega)).2]) W := fun i hi W => idx68 all ss h1 h2 i _ _ (by simp [h1, hi]) (by simp [h2, hi]) W
  have LD : (loadVar 68 ⟨w.heap.size, 0, none⟩).run Try.prog (w.alloc (.cells (gflat all ss).toArray 68)) = .ok (.agg (gflat all ss).toArray) (w.alloc (.cells (gflat all ss).toArray 68)) := by
    have := load_part 68 48 size68 agg68 (w.alloc (.cells (gflat all ss).toArray 68)) w.heap.size 0 (gflat all ss) _ (heap_alloc_new w _) (by rw [gflat48 all ss h1 h2]; omega)
    rw [this, List.drop_zero, List.take_of_length_le (by rw [gflat48 all ss h1 h2]; omega)]
  obtain ⟨C, hC⟩ : ∃ C, Hid ((gflat all ss).toArray = C) := ⟨_, rfl⟩
  rw [hC.out] at LD ⊢
  simp only [hC.out] at IX
  go_enter Try.func38, Try.ntmps38
  go_wp2_with (refine wpList_load_by rfl 68 (.tmp 1) rfl _ _ rfl LD ?_)
  have B1 : Below w.heap.size w (w.alloc (.cells C 68)) := Below.al (Below.refl _ _) _
  generalize (w.alloc (.cells C 68)) = X at *
  clear LD
  go_loopw [3, 7] (fun u v wr => ∃ i : Nat, i ≤ 16 ∧ v = .int .i64 i ∧ u = .int .i64 (roomG (all.take i) : Nat) ∧ Below w.heap.size w wr) (fun _ v _ => 16 - (intOf v).toNat)
  case atStart => exact ⟨0, by omega, rfl, rfl, B1⟩
  case round =>
    obtain ⟨i, hi, rfl, rfl, hb⟩ := hrel
    by_cases hlt : i < 16
    · have g1 : (i : Int) < 16 := by omega
      have IXi := IX i hlt
      have RN := roomG_next all i (all[i]'(by omega)) (by simp [h1, hlt])
      have LB := roomG_le (all.take i) (fun g hg => hl g (List.mem_of_mem_take hg))
      have L4 := hl (all[i]'(by omega)) (List.getElem_mem _)
      have hTl : (all.take i).length = i := by simp; omega
      generalize (all[i]'(by omega)) = g at *
      generalize (ss[i]'(by omega)) = sl at *
      obtain ⟨th, mk, bs⟩ := g
      dsimp only at *
      have ST := fun W => stays_any th mk (.slice sl.1 bs.length sl.2) W
      have RM := fun W => room_any bs.length (by omega) W
      have HRN : Hid (roomG (all.take (i + 1)) = roomG (all.take i) + gRoom ⟨th, mk, bs⟩) := RN
      have HGR : Hid (gRoom ⟨th, mk, bs⟩ = if (th && !mk) = true then rm bs.length else 0) := rfl
      have r0 := rm_lt bs.length
      have LB' : roomG (all.take i) ≤ 65792 := by rw [hTl] at LB; omega
      clear RN IX LB hTl
      generalize roomG (all.take i) = R at *
      generalize rm bs.length = r at *
      have e3 : (R : Int) + r ≤ 80000 := by omega
      have hB : Hid (Below w.heap.size w wr) := hb
      by_cases hs : (th && !mk) = true
      · rw [hs] at ST
        go_wp2_with fail
        with_reducible refine (ST _).mono ?_
        rintro e z ⟨rfl, hz⟩
        have cz : z.cell? ⟨wr.heap.size, 2, none⟩ = some (.slice sl.1 bs.length sl.2) := by
          rw [hz.cell (p := ⟨wr.heap.size, 2, none⟩) (by simp)]; simp [go_sem]
        have hBz : Hid (Below w.heap.size w z) := Below.andThen (Below.al hb _) hz
        clear ST hz
        go_wp2_with fail
        with_reducible refine (RM _).mono ?_
        rintro e z ⟨rfl, rfl⟩
        clear RM
        go_wp2_with fail
        exact ⟨⟨i + 1, by omega, by go_num, by rw [HRN.out, HGR.out, if_pos hs]; go_num, hBz.out⟩, by simp [intOf]; omega⟩
      · have hs' : (th && !mk) = false := by simpa using hs
        rw [hs'] at ST
        go_wp2_with fail
        with_reducible refine (ST _).mono ?_
        rintro e z ⟨rfl, hz⟩
        have hBz : Hid (Below w.heap.size w z) := Below.andThen (Below.al hb _) hz
        clear ST hz
        go_wp2_with fail
        exact ⟨⟨i + 1, by omega, by go_num, by rw [HRN.out, HGR.out, if_neg hs]; rfl, hBz.out⟩, by simp [intOf]; omega⟩
    · obtain rfl : i = 16 := by omega
      have e : Hid (all.take 16 = all) := List.take_of_length_le (by omega)
      go_wp2_with fail
      go_ret
      exact ⟨by rw [e.out]; rfl, hb⟩
#print axioms groom_any
end Go.Proofs.Ytgpbmccjcjoijaa
