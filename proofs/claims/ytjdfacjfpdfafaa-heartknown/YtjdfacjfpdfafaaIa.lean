/-
  The document's Hear of any frame at any time.
-/
import Derived.Test.YtjdfacjfpdfafaaHu
import Derived.Test.YtjdfacjfpdfafaaHv
import Derived.Test.YtjdfacjfpdfafaaHw
import Derived.Test.YtjdfacjfpdfafaaHx
import Derived.Test.YtjdfacjfpdfafaaHy
namespace Go.Proofs.Ytjdfacjfpdfafaa
open Go.RowKit

theorem rhear_any {w : World} {q r9 : Nat} {S : List Nd} (h : IsD w q r9 S) (hok : ∀ x ∈ S, x.Ok) (i n d0 d1 d2 d3 d4 d5 d6 d7 : Int) (r : Bool) (now : Int) (hi : 0 ≤ i ∧ i < 65536) : Calls Try.prog 22 #[pt q, frV i n d0 d1 d2 d3 d4 d5 d6 d7 r, .int .i64 now] w fun e w' => e = .returned (eoV (hearE S (btB i n d0 d1 d2 d3 d4 d5 d6 d7 r) i d0 now)) ∧ IsD w' q r9 (hearL S (btB i n d0 d1 d2 d3 d4 d5 d6 d7 r) i d0 now) ∧ Kp [r9] w w' := by
  have no : heard S (btB i n d0 d1 d2 d3 d4 d5 d6 d7 r) i now = none → Calls Try.prog 22 #[pt q, frV i n d0 d1 d2 d3 d4 d5 d6 d7 r, .int .i64 now] w (fun e w' => e = .returned noE ∧ Below w.heap.size w w') → Calls Try.prog 22 #[pt q, frV i n d0 d1 d2 d3 d4 d5 d6 d7 r, .int .i64 now] w fun e w' => e = .returned (eoV (hearE S (btB i n d0 d1 d2 d3 d4 d5 d6 d7 r) i d0 now)) ∧ IsD w' q r9 (hearL S (btB i n d0 d1 d2 d3 d4 d5 d6 d7 r) i d0 now) ∧ Kp [r9] w w' := fun hn k => by
    refine k.mono ?_
    rintro e w' ⟨rfl, hb⟩
    unfold hearE hearL
    rw [hn]
    exact ⟨rfl, h.next hb, Kp.of hb⟩
  cases hn : ndB (i - 1792) with
  | false =>
    have hb : btB i n d0 d1 d2 d3 d4 d5 d6 d7 r = false := by unfold btB; rw [hn]; rfl
    refine no (heard_no (.inl hb)) ?_
    rcases ndB_no hn with h1 | h1
    · exact rhear_low q i n _ _ _ _ _ _ _ _ r now hi h1 w
    · exact rhear_big q i n _ _ _ _ _ _ _ _ r now hi h1 w
  | true =>
    cases ht : tmB now with
    | false => exact no (heard_no (.inr ht)) (rhear_time q i n _ _ _ _ _ _ _ _ r now hi hn ht w)
    | true =>
      cases hs : stB d0 with
      | false => exact no (heard_no (.inl (by unfold btB; rw [hn, hs]; rfl))) (rhear_state q i n _ _ _ _ _ _ _ _ r now hi hn ht hs w)
      | true =>
        cases hq : sameF i n d0 d1 d2 d3 d4 d5 d6 d7 r i 1 d0 0 0 0 0 0 0 0 false with
        | false => exact no (heard_no (.inl (by unfold btB; rw [hn, hs, hq]; rfl))) (rhear_frame q i n _ _ _ _ _ _ _ _ r now hi hn ht hs hq w)
        | true =>
          have hb : btB i n d0 d1 d2 d3 d4 d5 d6 d7 r = true := by unfold btB; rw [hn, hs, hq]; rfl
          have h2 := ndB_of hn
          obtain ⟨k, hk⟩ : ∃ k : Nat, i = 1792 + (k : Int) := ⟨(i - 1792).toNat, by omega⟩
          subst hk
          have ek : (1792 + (k : Int) - 1792).toNat = k := by omega
          have ei : (1792 : Int) + (k : Int) - 1792 = (k : Int) := by omega
          obtain ⟨x, hx⟩ : ∃ x, S[k]? = some x := ⟨_, List.getElem?_eq_getElem (by have := h.sl; omega)⟩
          have o := (hok x (List.mem_of_getElem? hx)).1
          rw [hb] at no ⊢
          have hh := heard_at (S := S) (i := 1792 + (k : Int)) (now := now) ht (x := x) (by rw [ek]; exact hx)
          by_cases hW : x.W = 0
          · rw [if_neg (by omega)] at hh
            exact no hh (rhear_zero h hx n _ _ _ _ _ _ _ _ r now (by omega) hb ht hW)
          · rw [if_pos (by omega)] at hh
            have fin : Calls Try.prog 22 #[pt q, frV (1792 + (k : Int)) n d0 d1 d2 d3 d4 d5 d6 d7 r, .int .i64 now] w (fun e w' => e = .returned (eoV (if newsK x d0 = 0 then none else some ⟨(k : Int), newsK x d0, d0⟩)) ∧ IsD w' q r9 (S.set k (x.beat d0 now)) ∧ Kp [r9] w w') := by
              cases xh : x.h with
              | false => exact rhear_unheard h hx n _ _ _ _ _ _ _ _ r now (by omega) hb ht hW xh
              | true =>
                cases xg : x.g with
                | true => exact rhear_gone h hx n _ _ _ _ _ _ _ _ r now (by omega) hb ht hW xh xg
                | false =>
                  by_cases z0 : d0 = 0
                  · exact rhear_boot h hx n _ _ _ _ _ _ _ _ r now (by omega) hb ht hW xh xg z0
                  · by_cases z1 : d0 = x.s
                    · exact rhear_same h hx n _ _ _ _ _ _ _ _ r now (by omega) hb ht hW xh xg z0 z1
                    · exact rhear_other h hx n _ _ _ _ _ _ _ _ r now (by omega) hb ht hW xh xg z0 z1
            unfold hearE hearL
            rw [hh]
            dsimp only
            rw [ek, ei]
            exact fin
#print axioms rhear_any
end Go.Proofs.Ytjdfacjfpdfafaa
