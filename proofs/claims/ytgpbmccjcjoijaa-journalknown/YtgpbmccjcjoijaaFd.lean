/-
  The walks of erased and of a sector's bytes.
-/
import Derived.Test.YtgpbmccjcjoijaaFc
namespace Go.Proofs.Ytgpbmccjcjoijaa
open Go.RowKit

theorem zero57 : ∀ w, (zeroValue 92).run Try.prog w = .ok (.agg (Array.replicate 1024 (.int .u8 0))) w := (zero_of_info (P := Try.prog) (t := 92) (v := .agg (Array.replicate 1024 (.int .u8 0))) (n := 1024) (by kernel_rfl)).1
theorem size57 : (Try.prog.info? 92).map (·.size) = some 1024 := by kernel_rfl
theorem size32 : (Try.prog.info? 53).map (·.size) = some 4 := by kernel_rfl
theorem agg57 : ∀ w, (isAgg 92).run Try.prog w = .ok true w := fun w => by simp [isAgg, run_underlying Try.underlying92]
theorem agg32 : ∀ w, (isAgg 53).run Try.prog w = .ok true w := fun w => by simp [isAgg, run_underlying Try.underlying53]

/-- A sector while it is erased: so many words. -/
def er (i : Nat) : List Int := List.replicate (4 * i) 255 ++ List.replicate (1024 - 4 * i) 0
/-- A sector that is erased. -/
def ff : List Int := List.replicate 1024 255
def erC (i : Nat) : Array Value := ((er i).map (Value.int .u8)).toArray

theorem er_at (i j : Nat) (h : i ≤ 256) : (er i)[j]? = if j < 4 * i then some 255 else if j < 1024 then some 0 else none := by
  unfold er
  rw [List.getElem?_append, List.length_replicate, List.getElem?_replicate, List.getElem?_replicate]
  by_cases a : j < 4 * i
  · rw [if_pos a, if_pos a, if_pos a]
  · rw [if_neg a, if_neg a]
    by_cases b : j < 1024
    · rw [if_pos (by omega), if_pos b]
    · rw [if_neg (by omega), if_neg b]
theorem er_len (i : Nat) (h : i ≤ 256) : (er i).length = 1024 := by simp [er]; omega
theorem er_step (i : Nat) (h : i < 256) : put (er i) (4 * i) [255, 255, 255, 255] = er (i + 1) := by
  apply List.ext_getElem?
  intro j
  rw [put_at _ _ _ _ (by rw [er_len i (by omega)]; simp; omega), er_at i j (by omega), er_at (i + 1) j (by omega)]
  by_cases a : 4 * i ≤ j ∧ j < 4 * i + [255, 255, 255, (255 : Int)].length
  · rw [if_pos a]
    simp at a
    rw [if_pos (by omega)]
    have : j - 4 * i = 0 ∨ j - 4 * i = 1 ∨ j - 4 * i = 2 ∨ j - 4 * i = 3 := by omega
    rcases this with e | e | e | e <;> rw [e] <;> rfl
  · rw [if_neg a]
    have a' : j < 4 * i ∨ 4 * i + 4 ≤ j := by simp at a; omega
    by_cases b : j < 4 * i
    · rw [if_pos b, if_pos (by omega)]
    · rw [if_neg b, if_neg (show ¬ j < 4 * (i + 1) by omega)]
theorem erC_size (i : Nat) (h : i ≤ 256) : (erC i).size = 1024 := by simp [erC, er]; omega
theorem erC_0 : erC 0 = Array.replicate 1024 (.int .u8 0) := by
  unfold erC er
  rw [Nat.mul_zero, Nat.sub_zero, List.replicate_zero, List.nil_append, List.map_replicate, List.toArray_replicate]
theorem erC_256 : erC 256 = (ff.map (Value.int .u8)).toArray := by
  unfold erC er ff
  rw [show 4 * 256 = 1024 from rfl, Nat.sub_self, List.replicate_zero, List.append_nil]
theorem oneU8 (l : List Int) : ∀ v ∈ l.map (Value.int .u8), v.oneCell' = true := fun v hv => by obtain ⟨_, _, rfl⟩ := List.mem_map.1 hv; rfl
theorem er_store (w : World) (i : Nat) (h : i < 256) : (storeVar 53 ⟨w.heap.size, i * 4, none⟩ (.agg #[.int .u8 255, .int .u8 255, .int .u8 255, .int .u8 255])).run Try.prog (w.alloc (.cells (erC i) 92)) = .ok () (w.alloc (.cells (erC (i + 1)) 92)) := by
  have := store_part 53 4 size32 (w.alloc (.cells (erC i) 92)) w.heap.size (i * 4) (erC i) 92 (heap_alloc_last w _) ([255, 255, 255, 255].map (Value.int .u8)) rfl (by rw [erC_size i (by omega)]; omega) (oneU8 _)
  rw [World.setRow_alloc_new] at this
  have e : ((erC i).toList.take (i * 4) ++ [255, 255, 255, 255].map (Value.int .u8) ++ (erC i).toList.drop (i * 4 + ([255, 255, 255, 255].map (Value.int .u8)).length)).toArray = erC (i + 1) := by
    show (put (erC i).toList (i * 4) ([255, 255, 255, 255].map (Value.int .u8))).toArray = _
    rw [show (erC i).toList = (er i).map (Value.int .u8) from rfl, ← put_map, Nat.mul_comm, er_step i h]
    rfl
  rw [e] at this
  exact this

set_option maxHeartbeats 2000000 in
set_option maxRecDepth 100000 in
theorem erased_any (w : World) :
    Calls Try.prog 46 #[] w fun e w' => e = .returned (.agg (ff.map (Value.int .u8)).toArray) ∧ Below w.heap.size w w' := by
  have z57 := zero57
  have hst := fun i h => er_store (w.alloc (.cells (Array.replicate 1024 (.int .u8 0)) 92)) i h
  rw [show (w.alloc (.cells (Array.replicate 1024 (.int .u8 0)) 92)).heap.size = w.heap.size + 1 from by simp] at hst
  go_enter Try.func46, Try.ntmps46
  go_wp2_with fail
  go_loopw [3] (fun v wr => ∃ i : Nat, i ≤ 256 ∧ v = .int .i64 i ∧ wr = (w.alloc (.cells (Array.replicate 1024 (.int .u8 0)) 92)).alloc (.cells (erC i) 92))
    (fun v _ => 256 - (intOf v).toNat)
  case atStart =>
    exact ⟨0, by omega, rfl, by rw [erC_0]⟩
  case round =>
    obtain ⟨i, hi, rfl, rfl⟩ := hrel
    by_cases h : i < 256
    · have g : (i : Int) < 256 := by omega
      have g0 : 0 ≤ (i : Int) := by omega
      have H := hst i h
      clear hst
      go_wp2_with (refine wpList_store_by rfl 53 (.tmp 8) (.tmp 7) rfl _ _ rfl rfl H ?_)
      exact ⟨⟨i + 1, by omega, by go_num, rfl⟩, by simp [intOf]; omega⟩
    · obtain rfl : i = 256 := by omega
      have H : (loadVar 92 ⟨w.heap.size + 1, 0, none⟩).run Try.prog ((w.alloc (.cells (Array.replicate 1024 (.int .u8 0)) 92)).alloc (.cells (erC 256) 92)) = .ok (.agg (erC 256)) ((w.alloc (.cells (Array.replicate 1024 (.int .u8 0)) 92)).alloc (.cells (erC 256) 92)) := by
        have := run_loadVar_new (P := Try.prog) (w.alloc (.cells (Array.replicate 1024 (.int .u8 0)) 92)) 92 (erC 256) _ _ Try.underlying92 (by rw [erC_size 256 (by omega)]; exact size57)
        rwa [show (w.alloc (.cells (Array.replicate 1024 (.int .u8 0)) 92)).heap.size = w.heap.size + 1 from by simp] at this
      have hone : Hid ((erC 256).all (·.oneCell') = true) := Array.all_eq_true_iff_forall_mem.2 (fun v hv => oneU8 (er 256) v (by simpa [erC] using hv))
      have hs : Hid ((erC 256).size = 1024) := erC_size 256 (by omega)
      have EE : Hid (erC 256 = (ff.map (Value.int .u8)).toArray) := erC_256
      clear hst
      generalize erC 256 = E at *
      have H2 : (storeVar 92 ⟨w.heap.size, 0, none⟩ (.agg E)).run Try.prog ((w.alloc (.cells (Array.replicate 1024 (.int .u8 0)) 92)).alloc (.cells E 92)) = .ok () (((w.alloc (.cells (Array.replicate 1024 (.int .u8 0)) 92)).alloc (.cells E 92)).setRow w.heap.size E) :=
        run_storeVar_row (P := Try.prog) _ w.heap.size 92 92 _ E (heap_alloc2_old w _ _) (by rw [hs.out]; exact size57) (by rw [hs.out]; simp) hone.out
      go_wp2_with (first | refine wpList_load_by rfl 92 (.tmp 1) rfl _ _ rfl H ?_ | refine wpList_store_by rfl 92 (.tmp 0) (.tmp 10) rfl _ _ rfl rfl H2 ?_)
      refine bodyPost_ret (v := .agg E) ?_ rfl ?_
      · exact results_cell_row (P := Try.prog) rfl _ _ w.heap.size 92 E (0, 0) _ rfl (setRow_heap _ _ _ _ _ _ (heap_alloc2_old w _ _)) Try.underlying92 rfl (by rw [hs.out]; exact size57)
      · exact ⟨by rw [EE.out], ((((Kp.refl _ _).al _).al _).row _ _ (.inr (Nat.le_refl _))).bel⟩
#print axioms erased_any
end Go.Proofs.Ytgpbmccjcjoijaa
