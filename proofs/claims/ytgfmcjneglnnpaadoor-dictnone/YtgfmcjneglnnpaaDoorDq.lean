/-
  The entries of layer 8's example.
-/
import Derived.Test.YtgfmcjneglnnpaaDoorDd
namespace Go.Proofs.YtgfmcjneglnnpaaDoor
open Go.RowKit

def exE8 (n : Nat) : List Em := [⟨8192, 1, ⟨#[97]⟩, 5, 11, some ⟨n, 0, none⟩, 1, 1, some ⟨n + 1, 0, none⟩, 1, 1, some ⟨n + 1 + 1, 0, none⟩, 1, 1, 3, 1, [5], [1], [9]⟩, ⟨8192, 0, ⟨#[]⟩, 5, 1, some ⟨n + 1 + 1 + 1, 0, none⟩, 1, 1, none, 0, 0, none, 0, 0, 0, 0, [1], [], []⟩]
/-- The four rows of bytes. -/
def exB8 (w : World) : World := ((((w.alloc (.cells #[.int .u8 5] 5)).alloc (.cells #[.int .u8 1] 5)).alloc (.cells #[.int .u8 9] 5)).alloc (.cells #[.int .u8 1] 5))
/-- The entries' cells. -/
def exC8 (n : Nat) : Array Value := #[.int .u16 8192, .int .u8 1, .string ⟨#[97]⟩, .int .u8 5, .int .u8 11, .slice (some ⟨n, 0, none⟩) 1 1, .slice (some ⟨n + 1, 0, none⟩) 1 1, .slice (some ⟨n + 1 + 1, 0, none⟩) 1 1, .int .u8 3, .int .u8 1, .int .u16 8192, .int .u8 0, .string ⟨#[]⟩, .int .u8 5, .int .u8 1, .slice (some ⟨n + 1 + 1 + 1, 0, none⟩) 1 1, .slice none 0 0, .slice none 0 0, .int .u8 0, .int .u8 0]
def exW8 (w : World) : World := (exB8 w).alloc (.cells (exC8 w.heap.size) 28)
theorem exB8_size (w : World) : (exB8 w).heap.size = w.heap.size + 1 + 1 + 1 + 1 := by simp [exB8]
theorem exW8_size (w : World) : (exW8 w).heap.size = w.heap.size + 5 := by simp [exW8, exB8_size]
theorem exB8_below (w : World) : Below w.heap.size w (exB8 w) := by unfold exB8; exact (by repeat (first | exact Below.refl _ _ | apply Below.drew | apply Below.al))
theorem exW8_below (w : World) : Below w.heap.size w (exW8 w) := by unfold exW8; exact Below.al (exB8_below w) _
set_option linter.unusedSimpArgs false in
set_option maxHeartbeats 4000000 in
set_option maxRecDepth 100000 in
theorem example8_any (w : World) : Calls Tryd.prog 37 #[] w fun e w' => e = .returned (.slice (some ⟨w.heap.size + 1 + 1 + 1 + 1, 0, none⟩) 2 2) ∧ w' = exW8 w := by
  go_enter Tryd.func37, Tryd.ntmps37
  go_wp2_with fail
  go_ret
  exact ⟨rfl, rfl⟩
theorem oct18 (k : Int) (h0 : 0 ≤ k) (h1 : k ≤ 255) : Oct [k] := fun n hn => by simp at hn; omega
theorem ex8_rows (w : World) : SlOk (exB8 w) (some ⟨w.heap.size, 0, none⟩) 1 1 [5] ∧ SlOk (exB8 w) (some ⟨w.heap.size + 1, 0, none⟩) 1 1 [1] ∧ SlOk (exB8 w) (some ⟨w.heap.size + 1 + 1, 0, none⟩) 1 1 [9] ∧ SlOk (exB8 w) (some ⟨w.heap.size + 1 + 1 + 1, 0, none⟩) 1 1 [1] := by
  obtain ⟨w1, h1⟩ : ∃ w1, w.alloc (.cells #[.int .u8 5] 5) = w1 := ⟨_, rfl⟩
  obtain ⟨w2, h2⟩ : ∃ w2, w1.alloc (.cells #[.int .u8 1] 5) = w2 := ⟨_, rfl⟩
  obtain ⟨w3, h3⟩ : ∃ w3, w2.alloc (.cells #[.int .u8 9] 5) = w3 := ⟨_, rfl⟩
  obtain ⟨w4, h4⟩ : ∃ w4, w3.alloc (.cells #[.int .u8 1] 5) = w4 := ⟨_, rfl⟩
  have he : exB8 w = w4 := by unfold exB8; rw [h1, h2, h3, h4]
  have s1 : w1.heap.size = w.heap.size + 1 := by rw [← h1]; simp
  have s2 : w2.heap.size = w1.heap.size + 1 := by rw [← h2]; simp
  have s3 : w3.heap.size = w2.heap.size + 1 := by rw [← h3]; simp
  have b4 : Below w3.heap.size w3 w4 := by rw [← h4]; exact Below.al (Below.refl _ _) _
  have b3 : Below w2.heap.size w2 w4 := Below.andThen (by rw [← h3]; exact Below.al (Below.refl _ _) _) b4
  have b2 : Below w1.heap.size w1 w4 := Below.andThen (by rw [← h2]; exact Below.al (Below.refl _ _) _) b3
  rw [he]
  refine ⟨SlOk.next ⟨?_, by decide, by decide⟩ b2, SlOk.next ⟨?_, by decide, by decide⟩ b3, SlOk.next ⟨?_, by decide, by decide⟩ b4, ⟨?_, by decide, by decide⟩⟩
  · rw [← h1]; exact row_lit w _ _ _ 1 rfl (oct18 5 (by decide) (by decide)) rfl
  · rw [← h2, ← s1]; exact row_lit w1 _ _ _ 1 rfl (oct18 1 (by decide) (by decide)) rfl
  · rw [← h3, ← s1, ← s2]; exact row_lit w2 _ _ _ 1 rfl (oct18 9 (by decide) (by decide)) rfl
  · rw [← h4, ← s1, ← s2, ← s3]; exact row_lit w3 _ _ _ 1 rfl (oct18 1 (by decide) (by decide)) rfl
theorem ex8_at (w : World) (k : Nat) (e : Em) (he : (exE8 w.heap.size)[k]? = some e) : EmAt (exW8 w) (w.heap.size + 1 + 1 + 1 + 1) k e := by
  have HR : (exW8 w).heap[w.heap.size + 1 + 1 + 1 + 1]? = some (.cells (exC8 w.heap.size) 28 (0, 0)) := at11 _ _ _ (exB8_size w).symm
  rcases k with _ | _ | k
  case succ.succ => simp [exE8] at he
  all_goals
    simp only [exE8, List.getElem?_cons_zero, List.getElem?_cons_succ, Option.some.injEq] at he
    subst he
    refine ⟨?_, ?_, ?_, ?_, ?_, ?_, ?_, ?_, ?_, ?_⟩ <;> (rw [cell_of_row _ _ _ _ _ _ HR]; rfl)
theorem ex8_ok (w : World) : ∀ e ∈ exE8 w.heap.size, EmOk (exW8 w) e := by
  obtain ⟨r0, r1, r2, r3⟩ := ex8_rows w
  have b : Below (exB8 w).heap.size (exB8 w) (exW8 w) := Below.al (Below.refl _ _) _
  have r0 := r0.next b
  have r1 := r1.next b
  have r2 := r2.next b
  have r3 := r3.next b
  have rn := slOk_nil (exW8 w)
  clear b
  intro e he
  simp only [exE8, List.mem_cons, List.not_mem_nil, or_false] at he
  rcases he with rfl | rfl
  · exact ⟨r0, r1, r2, by dsimp only; decide, by dsimp only; decide, by dsimp only; decide, by dsimp only; decide, by dsimp only; decide, by dsimp only; decide, by dsimp only; decide, by dsimp only; decide +kernel, by dsimp only; decide +kernel, by dsimp only; decide +kernel⟩
  · exact ⟨r3, rn, rn, by dsimp only; decide, by dsimp only; decide, by dsimp only; decide, by dsimp only; decide, by dsimp only; decide, by dsimp only; decide, by dsimp only; decide, by dsimp only; decide +kernel, by dsimp only; decide +kernel, by dsimp only; decide +kernel⟩
theorem ex8_dis (n k : Nat) (e : Em) (he : (exE8 n)[k]? = some e) : ∀ e' ∈ (exE8 n).take k, ¬ (e.i = e'.i ∧ e.s = e'.s) := by
  rcases k with _ | _ | k
  case succ.succ => simp [exE8] at he
  all_goals
    simp only [exE8, List.getElem?_cons_zero, List.getElem?_cons_succ, Option.some.injEq] at he
    subst he
    simp [exE8]
set_option linter.unusedSimpArgs false in
set_option maxHeartbeats 4000000 in
set_option maxRecDepth 100000 in
theorem exNew8 (w : World) (hT : Ty.Tab64 (exW8 w)) : Calls Tryd.prog 21 #[.slice (some ⟨w.heap.size + 1 + 1 + 1 + 1, 0, none⟩) 2 2] (exW8 w) (NewPost (exE8 w.heap.size) (exW8 w)) :=
  new_at (w.heap.size + 1 + 1 + 1 + 1) 2 (exE8 w.heap.size) (exW8 w) (by simp [exE8]) (ex8_ok w) (ex8_at w) (fun k e he => ex8_dis _ k e he) hT
end Go.Proofs.YtgfmcjneglnnpaaDoor
