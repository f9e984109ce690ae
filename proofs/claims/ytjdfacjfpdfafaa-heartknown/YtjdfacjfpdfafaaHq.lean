/-
  The walk of the document's Due.
-/
import Derived.Test.YtjdfacjfpdfafaaHp
namespace Go.Proofs.Ytjdfacjfpdfafaa
open Go.RowKit

theorem dueK_no {S : List Nd} {k : Nat} {x : Nd} (hx : S[k]? = some x) (h : ¬ (0 < x.W ∧ x.on = true)) : dueK S (k + 1) = dueK S k := by
  simp only [dueK, hx]; rw [if_neg h]
theorem dueK_yes {S : List Nd} {k : Nat} {x : Nd} (hx : S[k]? = some x) (h : 0 < x.W ∧ x.on = true) : dueK S (k + 1) = nxtT (dueK S k) (x.t + x.W) := by
  simp only [dueK, hx]; rw [if_pos h]
set_option linter.unusedSimpArgs false in
set_option maxHeartbeats 4000000 in
set_option maxRecDepth 100000 in
theorem rdue_any {w : World} {q r : Nat} {S : List Nd} (h : IsD w q r S) (hok : ∀ x ∈ S, x.Ok) : Calls Try.prog 43 #[pt q] w fun e w' => e = .returned (dueV (dueK S 128)) ∧ Below w.heap.size w w' := by
  have HD : Hid (IsD w q r S) := h
  have OK : Hid (∀ x ∈ S, x.Ok) := hok
  clear h hok
  go_enter Try.func43, Try.ntmps43
  go_wp2_with fail
  go_loopw [4, 5, 6] (fun l b iv wr => ∃ j : Nat, j ≤ 128 ∧ iv = .int .i64 (j : Int) ∧ l = .int .i64 ((dueK S j).getD 0) ∧ b = .bool (dueK S j).isSome ∧ Below w.heap.size w wr) (fun _ _ iv _ => 128 - (intOf iv).toNat)
  case atStart => exact ⟨0, Nat.zero_le _, rfl, rfl, rfl, Below.refl _ _⟩
  case round =>
    obtain ⟨j, hj, rfl, rfl, rfl, HB⟩ := hrel
    have HD2 : Hid (IsD wr q r S) := HD.out.next HB
    have c0 := HD2.out.c0
    by_cases hj8 : j < 128
    · have gk : (j : Int) < 128 := by omega
      have gk0 : (0 : Int) ≤ (j : Int) := by omega
      have wk : IntKind.i64.wrap ((j : Int) + 1) = ((j + 1 : Nat) : Int) := by rw [IntKind.wrap_i64]; omega
      obtain ⟨y, hy⟩ : ∃ y, S[j]? = some y := ⟨_, List.getElem?_eq_getElem (by have := HD.out.sl; omega)⟩
      have o := OK.out y (List.mem_of_getElem? hy)
      have LD := HD2.out.load hy
      obtain ⟨s, hs⟩ : ∃ s, s = dueK S j := ⟨_, rfl⟩
      have DN : Hid (¬ (0 < y.W ∧ y.on = true) → dueK S (j + 1) = s) := fun h => by rw [hs]; exact dueK_no hy h
      have DY : Hid (0 < y.W ∧ y.on = true → dueK S (j + 1) = nxtT s (y.t + y.W)) := fun h => by rw [hs]; exact dueK_yes hy h
      rw [← hs]
      clear hs hy HD2
      obtain ⟨W, hh, g, st, t⟩ := y
      rw [show (Nd.mk W hh g st t).D.toArray = #[.int .i64 W, .bool hh, .bool g, .int .u8 st, .int .i64 t] from rfl] at LD
      have wn : IntKind.i64.wrap (t + W) = t + W := by obtain ⟨o1, o2, o3, o4, _⟩ := o; simp only at o1 o2 o3 o4; exact w64 _ (by omega) (by omega)
      clear o
      by_cases hW : 0 < W
      rotate_left
      · have E : Hid (dueK S (j + 1) = s) := DN.out (by rintro ⟨h1, _⟩; exact hW h1)
        clear DN DY
        go_wp2_with (refine wpList_load_by rfl 89 _ rfl ⟨r, j * 5, none⟩ _ rfl LD ?_)
        exact ⟨⟨j + 1, by omega, by go_num, by rw [E.out], by rw [E.out], Below.al HB _⟩, by simp [intOf]; omega⟩
      cases hh with
      | false =>
        have E : Hid (dueK S (j + 1) = s) := DN.out (by simp [Nd.on])
        clear DN DY
        go_wp2_with (refine wpList_load_by rfl 89 _ rfl ⟨r, j * 5, none⟩ _ rfl LD ?_)
        exact ⟨⟨j + 1, by omega, by go_num, by rw [E.out], by rw [E.out], Below.al HB _⟩, by simp [intOf]; omega⟩
      | true =>
        cases g with
        | true =>
          have E : Hid (dueK S (j + 1) = s) := DN.out (by simp [Nd.on])
          clear DN DY
          go_wp2_with (refine wpList_load_by rfl 89 _ rfl ⟨r, j * 5, none⟩ _ rfl LD ?_)
          exact ⟨⟨j + 1, by omega, by go_num, by rw [E.out], by rw [E.out], Below.al HB _⟩, by simp [intOf]; omega⟩
        | false =>
          have F : Hid (dueK S (j + 1) = nxtT s (t + W)) := DY.out ⟨hW, rfl⟩
          clear DN DY
          cases s with
          | none =>
            have E : Hid (dueK S (j + 1) = some (t + W)) := F.out
            clear F
            simp only [Option.isSome, Option.getD]
            go_wp2_with (refine wpList_load_by rfl 89 _ rfl ⟨r, j * 5, none⟩ _ rfl LD ?_)
            exact ⟨⟨j + 1, by omega, by go_num, by rw [E.out], by rw [E.out], Below.al HB _⟩, by simp [intOf]; omega⟩
          | some a =>
            simp only [Option.isSome, Option.getD]
            by_cases hl : t + W < a
            · have E : Hid (dueK S (j + 1) = some (t + W)) := F.out.trans (if_pos hl)
              clear F
              go_wp2_with (refine wpList_load_by rfl 89 _ rfl ⟨r, j * 5, none⟩ _ rfl LD ?_)
              exact ⟨⟨j + 1, by omega, by go_num, by rw [E.out], by rw [E.out], Below.al HB _⟩, by simp [intOf]; omega⟩
            · have E : Hid (dueK S (j + 1) = some a) := F.out.trans (if_neg hl)
              clear F
              go_wp2_with (refine wpList_load_by rfl 89 _ rfl ⟨r, j * 5, none⟩ _ rfl LD ?_)
              exact ⟨⟨j + 1, by omega, by go_num, by rw [E.out], by rw [E.out], Below.al HB _⟩, by simp [intOf]; omega⟩
    · obtain rfl : j = 128 := by omega
      go_wp2_with fail
      go_ret2
      exact ⟨rfl, HB⟩
#print axioms rdue_any
end Go.Proofs.Ytjdfacjfpdfafaa
