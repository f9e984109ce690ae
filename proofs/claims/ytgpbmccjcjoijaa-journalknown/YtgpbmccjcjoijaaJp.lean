/-
  A journal's cells; the walks of gone, Load and Groups.
-/
import Derived.Test.YtgpbmccjcjoijaaJn
namespace Go.Proofs.Ytgpbmccjcjoijaa
open Go.RowKit

abbrev JB (w : World) (q p f1 f2 k : Nat) (bg : Bool) (num : Int) (en : Nat) (all : List Gp) (ss : List SL) (cut : Bool) : Prop := w.heap[q]? = some (.cells (jcells p f1 f2 k bg num en all ss cut).toArray 73 (0, 0))
section
variable {w : World} {q p f1 f2 k : Nat} {bg : Bool} {num : Int} {en : Nat} {all : List Gp} {ss : List SL} {cut : Bool}
theorem JB.c0 (h : JB w q p f1 f2 k bg num en all ss cut) : w.cell? ⟨q, 0, none⟩ = some (.pointer (some ⟨p, 0, none⟩)) := by rw [cell_of_row w _ _ _ _ _ h]; rfl
theorem JB.c1 (h : JB w q p f1 f2 k bg num en all ss cut) : w.cell? ⟨q, 1, none⟩ = some (.int .i64 (f1 : Int)) := by rw [cell_of_row w _ _ _ _ _ h]; rfl
theorem JB.c2 (h : JB w q p f1 f2 k bg num en all ss cut) : w.cell? ⟨q, 2, none⟩ = some (.int .i64 (k : Int)) := by rw [cell_of_row w _ _ _ _ _ h]; rfl
theorem JB.c3 (h : JB w q p f1 f2 k bg num en all ss cut) : w.cell? ⟨q, 3, none⟩ = some (.bool bg) := by rw [cell_of_row w _ _ _ _ _ h]; rfl
theorem JB.c4 (h : JB w q p f1 f2 k bg num en all ss cut) : w.cell? ⟨q, 4, none⟩ = some (.int .u8 num) := by rw [cell_of_row w _ _ _ _ _ h]; rfl
theorem JB.c5 (h : JB w q p f1 f2 k bg num en all ss cut) : w.cell? ⟨q, 5, none⟩ = some (.int .i64 (en : Int)) := by rw [cell_of_row w _ _ _ _ _ h]; rfl
theorem JB.c6 (h : JB w q p f1 f2 k bg num en all ss cut) : w.cell? ⟨q, 6, none⟩ = some (.pointer (some ⟨p, 0, none⟩)) := by rw [cell_of_row w _ _ _ _ _ h]; rfl
theorem JB.c7 (h : JB w q p f1 f2 k bg num en all ss cut) : w.cell? ⟨q, 7, none⟩ = some (.int .i64 (f2 : Int)) := by rw [cell_of_row w _ _ _ _ _ h]; rfl
theorem JB.c8 (h : JB w q p f1 f2 k bg num en all ss cut) : w.cell? ⟨q, 8, none⟩ = some (.int .i64 (k : Int)) := by rw [cell_of_row w _ _ _ _ _ h]; rfl
theorem JB.cc (h : JB w q p f1 f2 k bg num en all ss cut) (h1 : all.length = 16) (h2 : ss.length = 16) : w.cell? ⟨q, 57, none⟩ = some (.bool cut) := by
  rw [cell_of_row w _ _ _ _ _ h]
  have := gflat48 all ss h1 h2
  simp [jcells, this]
theorem JB.grp (h : JB w q p f1 f2 k bg num en all ss cut) (h1 : all.length = 16) (h2 : ss.length = 16) (i : Nat) (g : Gp) (s : SL) (hg : all[i]? = some g) (hs : ss[i]? = some s) : w.cell? ⟨q, 9 + i * 3, none⟩ = some (.bool g.there) ∧ w.cell? ⟨q, 9 + i * 3 + 1, none⟩ = some (.bool g.marked) ∧ w.cell? ⟨q, 9 + i * 3 + 2, none⟩ = some (.slice s.1 g.bs.length s.2) := by
  have hi : i < 16 := by
    by_cases hh : i < all.length
    · omega
    · simp [hh] at hg
  have hL := gflat48 all ss h1 h2
  obtain ⟨e0, e1, e2⟩ := gflat_at all ss i g s hg hs
  have key : ∀ j v, j < 48 → (gflat all ss)[j]? = some v → w.cell? ⟨q, 9 + j, none⟩ = some v := fun j v hj hv => by
    rw [cell_of_row w _ _ _ _ _ h]
    have e : jcells p f1 f2 k bg num en all ss cut = (half6 p f1 k bg num en ++ rg3 p f2 k) ++ (gflat all ss ++ [.bool cut]) := by simp [jcells]
    rw [e, List.getElem?_toArray, List.getElem?_append_right (by simp), List.getElem?_append_left (by simp; omega)]
    simpa using hv
  exact ⟨key _ _ (by omega) e0, key _ _ (by omega) e1, key _ _ (by omega) e2⟩
theorem JB.fz (h : JB w q p f1 f2 k bg num en all ss cut) (j : Nat) : w.frozen? ⟨q, j, none⟩ = false := frozen_of_row w q j _ _ h
theorem JB.setCut (h : JB w q p f1 f2 k bg num en all ss cut) (h1 : all.length = 16) (h2 : ss.length = 16) (c : Bool) : JB (w.setCell ⟨q, 57, none⟩ (.bool c)) q p f1 f2 k bg num en all ss c := by
  show _ = _
  rw [heap_setCell_same w q 57 _ _ _ h]
  have hL := gflat48 all ss h1 h2
  congr 2
  have e : ∀ c, jcells p f1 f2 k bg num en all ss c = (half6 p f1 k bg num en ++ (rg3 p f2 k ++ gflat all ss)) ++ [.bool c] := fun c => by simp [jcells]
  rw [e, e, List.setIfInBounds_toArray, List.set_append_right _ _ (by simp [hL])]
  simp [hL]
theorem JB.setEn (h : JB w q p f1 f2 k bg num en all ss cut) (m : Nat) : JB (w.setCell ⟨q, 5, none⟩ (.int .i64 (m : Int))) q p f1 f2 k bg num m all ss cut := by
  show _ = _
  rw [heap_setCell_same w q 5 _ _ _ h]
  rfl
theorem JB.load68 (h : JB w q p f1 f2 k bg num en all ss cut) (h1 : all.length = 16) (h2 : ss.length = 16) : (loadVar 68 ⟨q, 9, none⟩).run Try.prog w = .ok (.agg (gflat all ss).toArray) w := by
  have hL := gflat48 all ss h1 h2
  have := load_part 68 48 size68 agg68 w q 9 (jcells p f1 f2 k bg num en all ss cut) _ h (by rw [jcells_len p f1 f2 k bg num en h1 h2 cut]; omega)
  rw [this]
  have e : jcells p f1 f2 k bg num en all ss cut = (half6 p f1 k bg num en ++ rg3 p f2 k) ++ (gflat all ss ++ [.bool cut]) := by simp [jcells]
  rw [e, List.drop_append_of_le_length (by simp), List.drop_of_length_le (by simp), List.nil_append, List.take_append_of_le_length (by omega), List.take_of_length_le (by omega)]
theorem JB.store68 (h : JB w q p f1 f2 k bg num en all ss cut) (h1 : all.length = 16) (h2 : ss.length = 16) (all' : List Gp) (ss' : List SL) (h3 : all'.length = 16) (h4 : ss'.length = 16) : ∃ w', (storeVar 68 ⟨q, 9, none⟩ (.agg (gflat all' ss').toArray)).run Try.prog w = .ok () w' ∧ JB w' q p f1 f2 k bg num en all' ss' cut ∧ Kp [q] w w' := by
  have hL := gflat48 all ss h1 h2
  have hL' := gflat48 all' ss' h3 h4
  have := store_part 68 48 size68 w q 9 _ _ h (gflat all' ss') hL' (by rw [List.size_toArray, jcells_len p f1 f2 k bg num en h1 h2 cut]; omega) (gflat_one all' ss')
  refine ⟨_, this, ?_, (Kp.refl _ _).row _ _ (.inl (by simp))⟩
  show _ = _
  rw [setRow_heap w q _ _ _ _ h]
  have e : jcells p f1 f2 k bg num en all ss cut = (half6 p f1 k bg num en ++ rg3 p f2 k) ++ (gflat all ss ++ [.bool cut]) := by simp [jcells]
  have e' : jcells p f1 f2 k bg num en all' ss' cut = (half6 p f1 k bg num en ++ rg3 p f2 k) ++ (gflat all' ss' ++ [.bool cut]) := by simp [jcells]
  rw [e', ← put_exact (half6 p f1 k bg num en ++ rg3 p f2 k) (gflat all ss) (gflat all' ss') [.bool cut] 9 rfl (by omega), e]
  rfl
end

set_option linter.unusedSimpArgs false in
set_option maxHeartbeats 4000000 in
set_option maxRecDepth 100000 in
theorem gone_any {w : World} {p B n cap : Nat} {s : FS} (hF : IsS w p B n cap s) {q f1 f2 k : Nat} {bg : Bool} {num : Int} {en : Nat} {all : List Gp} {ss : List SL} {cut : Bool} (h : JB w q p f1 f2 k bg num en all ss cut) (h1 : all.length = 16) (h2 : ss.length = 16) :
    Calls Try.prog 35 #[.pointer (some ⟨q, 0, none⟩)] w fun e w' => e = .returned (.bool (cut || s.of)) ∧ JB w' q p f1 f2 k bg num en all ss (cut || s.of) ∧ Kp [q] w w' := by
  have c0 := h.c0
  have c57 := h.cc h1 h2
  have f57 := h.fz 57
  have OF := off_any hF
  have SC := fun c => h.setCut h1 h2 c
  have HS : Hid (∀ c, JB (w.setCell ⟨q, 57, none⟩ (.bool c)) q p f1 f2 k bg num en all ss c) := SC
  clear SC h hF
  obtain ⟨C, st, ar, lf, of⟩ := s
  dsimp only at *
  cases cut with
  | true =>
    go_enter Try.func35, Try.ntmps35
    go_wp2_with fail
    go_ret
    exact ⟨rfl, HS.out true, (Kp.refl _ _).set _ _ (.inl (by simp))⟩
  | false =>
    go_enter Try.func35, Try.ntmps35
    go_wp2_with fail
    with_reducible refine OF.mono ?_
    rintro e w ⟨rfl, rfl⟩
    clear OF
    go_wp2_with fail
    go_ret
    exact ⟨by rw [Bool.false_or]; rfl, by rw [Bool.false_or]; exact HS.out of, (Kp.refl _ _).set _ _ (.inl (by simp))⟩
#print axioms gone_any
end Go.Proofs.Ytgpbmccjcjoijaa
