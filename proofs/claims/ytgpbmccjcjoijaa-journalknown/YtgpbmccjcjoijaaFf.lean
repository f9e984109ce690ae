/-
  The walks of Read and Word.
-/
import Derived.Test.YtgpbmccjcjoijaaFe
namespace Go.Proofs.Ytgpbmccjcjoijaa
open Go.RowKit

/-- A sector's bytes. -/
def sec (cs : List Int) (k : Nat) : List Int := (cs.drop (k * 1024)).take 1024
theorem sec_len {cs : List Int} {n k : Nat} (h : cs.length = 1024 * n) (hk : k < n) : (sec cs k).length = 1024 := by unfold sec; rw [List.length_take, List.length_drop]; omega
theorem sec_oct {cs : List Int} (h : Oct cs) (k : Nat) : Oct (sec cs k) := (h.drop _).take _
theorem sec_at (cs : List Int) (k j : Nat) (hj : j < 1024) : (sec cs k).getD j 0 = cs.getD (k * 1024 + j) 0 := by
  unfold sec
  simp [List.getD_eq_getElem?_getD, List.getElem?_drop, hj]
/-- A sector out of memory. -/
theorem IsF.sector {w : World} {p B n cap : Nat} {cs : List Int} {st : Int} {ar : Bool} {lf : Int} {of : Bool} (h : IsF w p B n cap cs st ar lf of) (k : Nat) (hk : k < n) : (loadVar 92 ⟨B, k * 1024, none⟩).run Try.prog w = .ok (.agg ((sec cs k).map (Value.int .u8)).toArray) w := by
  obtain ⟨t, ex, hr⟩ := h.row
  have hl := h.len
  have := load_part 92 1024 size57 agg57 w B (k * 1024) (cs.map (Value.int .u8) ++ ex) t hr (by rw [List.length_append, List.length_map]; omega)
  rw [List.drop_append_of_le_length (by rw [List.length_map]; omega), List.take_append_of_le_length (by rw [List.length_drop, List.length_map]; omega), ← List.map_drop, ← List.map_take] at this
  exact this
/-- A word out of memory. -/
theorem IsF.word {w : World} {p B n cap : Nat} {cs : List Int} {st : Int} {ar : Bool} {lf : Int} {of : Bool} (h : IsF w p B n cap cs st ar lf of) (k d : Nat) (hk : k < n) (hd : d < 256) : (loadVar 53 ⟨B, k * 1024 + d * 4, none⟩).run Try.prog w = .ok (.agg (wdC cs (k * 1024 + d * 4))) w := by
  obtain ⟨t, ex, hr⟩ := h.row
  have hl := h.len
  have := load_part 53 4 size32 agg32 w B (k * 1024 + d * 4) (cs.map (Value.int .u8) ++ ex) t hr (by rw [List.length_append, List.length_map]; omega)
  rw [List.drop_append_of_le_length (by rw [List.length_map]; omega), List.take_append_of_le_length (by rw [List.length_drop, List.length_map]; omega), ← List.map_drop, ← List.map_take, wd_take cs _ (by omega)] at this
  exact this

set_option linter.unusedSimpArgs false in
set_option maxHeartbeats 2000000 in
set_option maxRecDepth 100000 in
theorem read_bad {w : World} {p B n cap : Nat} {cs : List Int} {st : Int} {ar : Bool} {lf : Int} {of : Bool} (h : IsF w p B n cap cs st ar lf of) (s : Int) (hb : refE of n s 0 ≠ 0) :
    Calls Try.prog 43 #[.pointer (some ⟨p, 0, none⟩), .int .i64 s] w fun e w' => e = .returned (.tuple #[.slice none 0 0, .int .i64 (refE of n s 0)]) ∧ w' = w := by
  have hr := refuses_any h s 0
  have gb : (refE of n s 0 != 0) = true := by simp [hb]
  generalize refE of n s 0 = E at *
  clear h hb
  go_enter Try.func43, Try.ntmps43
  go_wp2_with fail
  refine hr.mono ?_
  rintro e w ⟨rfl, rfl⟩
  clear hr
  go_wp2_with fail
  go_ret2
  exact ⟨rfl, rfl⟩

set_option linter.unusedSimpArgs false in
set_option maxHeartbeats 2000000 in
set_option maxRecDepth 100000 in
theorem read_nil (w : World) (s : Int) :
    Calls Try.prog 43 #[.pointer none, .int .i64 s] w fun e w' => e = .returned (.tuple #[.slice none 0 0, .int .i64 1]) ∧ w' = w := by
  go_enter Try.func43, Try.ntmps43
  go_wp2_with fail
  refine (refuses_nil w s 0).mono ?_
  rintro e w ⟨rfl, rfl⟩
  go_wp2_with fail
  go_ret2
  exact ⟨rfl, rfl⟩

set_option linter.unusedSimpArgs false in
set_option maxHeartbeats 2000000 in
set_option maxRecDepth 100000 in
theorem read_ok {w : World} {p B n cap : Nat} {cs : List Int} {st : Int} {ar : Bool} {lf : Int} {of : Bool} (h : IsF w p B n cap cs st ar lf of) (k : Nat) (hk : k < n) (ho : of = false) :
    Calls Try.prog 43 #[.pointer (some ⟨p, 0, none⟩), .int .i64 k] w fun e w' => (∃ a c, e = .returned (.tuple #[.slice a 1024 c, .int .i64 0]) ∧ Told w w' a 1024 c (sec cs k)) ∧ Below w.heap.size w w' := by
  have hr := refuses_any h k 0
  rw [refE_ok ho n k 0 (by omega) (by omega) (by omega) (by omega)] at hr
  have LD := h.sector k hk
  have hby := bytes_any (sec cs k) (sec_len h.len hk) (sec_oct h.oct k) w
  have k0 := h.c0
  have gk : (k : Int) < n := by omega
  generalize sec cs k = L at *
  generalize (List.map (Value.int .u8) L).toArray = C at *
  clear h
  go_enter Try.func43, Try.ntmps43
  go_wp2_with fail
  refine hr.mono ?_
  rintro e w ⟨rfl, rfl⟩
  clear hr
  go_wp2_with (refine wpList_load_by rfl 92 (.tmp 18) rfl _ _ rfl LD ?_)
  refine hby.mono ?_
  rintro e w2 ⟨⟨a, c, rfl, ht⟩, hb⟩
  clear hby LD k0
  go_wp2_with fail
  go_ret2
  exact ⟨⟨_, _, rfl, ht⟩, hb⟩

end Go.Proofs.Ytgpbmccjcjoijaa
