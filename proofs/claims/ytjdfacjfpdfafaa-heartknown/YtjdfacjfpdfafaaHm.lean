/-
  A watch's Hear, of any frame at any time; what the document's watch is in memory.
-/
import Derived.Test.YtjdfacjfpdfafaaHl0
import Derived.Test.YtjdfacjfpdfafaaHl1
namespace Go.Proofs.Ytjdfacjfpdfafaa
open Go.RowKit

/-- The node that a beat is heard of. -/
def heard (S : List Nd) (bt : Bool) (i now : Int) : Option Nd := if bt = true ∧ tmB now = true then (match S[(i - 1792).toNat]? with
  | none => none
  | some x => if 0 < x.W then some x else none) else none
/-- The event, if any. -/
def hearE (S : List Nd) (bt : Bool) (i s now : Int) : Option Ev := match heard S bt i now with
  | none => none
  | some x => if newsK x s = 0 then none else some ⟨i - 1792, newsK x s, s⟩
def hearL (S : List Nd) (bt : Bool) (i s now : Int) : List Nd := match heard S bt i now with
  | none => S
  | some x => S.set (i - 1792).toNat (x.beat s now)
abbrev eoV (o : Option Ev) : Value := match o with
  | none => noE
  | some e => .tuple #[.agg (evA e.n e.k e.s), .bool true]
theorem heard_no {S : List Nd} {bt : Bool} {i now : Int} (h : bt = false ∨ tmB now = false) : heard S bt i now = none := by
  unfold heard
  rw [if_neg]
  rintro ⟨h1, h2⟩
  rcases h with h | h
  · rw [h] at h1; cases h1
  · rw [h] at h2; cases h2
theorem heard_at {S : List Nd} {i now : Int} {x : Nd} (ht : tmB now = true) (hx : S[(i - 1792).toNat]? = some x) : heard S true i now = if 0 < x.W then some x else none := by
  unfold heard
  rw [if_pos ⟨rfl, ht⟩, hx]
theorem hear_any {w : World} {base p : Nat} {P : List (Option Nat)} {S : List Nd} (hw : IsW w base p P S) (i n d0 d1 d2 d3 d4 d5 d6 d7 : Int) (r : Bool) (now : Int) (hi : 0 ≤ i ∧ i < 65536) (hd : 0 ≤ d0 ∧ d0 < 256) : Calls Try.prog 20 #[pt p, frV i n d0 d1 d2 d3 d4 d5 d6 d7 r, .int .i64 now] w fun e w' => e = .returned (eoV (hearE S (btB i n d0 d1 d2 d3 d4 d5 d6 d7 r) i d0 now)) ∧ (∃ P', IsW w' base p P' (hearL S (btB i n d0 d1 d2 d3 d4 d5 d6 d7 r) i d0 now)) ∧ Kt base w w' := by
  have no : heard S (btB i n d0 d1 d2 d3 d4 d5 d6 d7 r) i now = none → Calls Try.prog 20 #[pt p, frV i n d0 d1 d2 d3 d4 d5 d6 d7 r, .int .i64 now] w (fun e w' => e = .returned noE ∧ Below w.heap.size w w') → Calls Try.prog 20 #[pt p, frV i n d0 d1 d2 d3 d4 d5 d6 d7 r, .int .i64 now] w fun e w' => e = .returned (eoV (hearE S (btB i n d0 d1 d2 d3 d4 d5 d6 d7 r) i d0 now)) ∧ (∃ P', IsW w' base p P' (hearL S (btB i n d0 d1 d2 d3 d4 d5 d6 d7 r) i d0 now)) ∧ Kt base w w' := fun hn h => by
    refine h.mono ?_
    rintro e w' ⟨rfl, hb⟩
    unfold hearE hearL
    rw [hn]
    exact ⟨rfl, ⟨P, hw.next hb⟩, Kt.of hb⟩
  cases hq : btB i n d0 d1 d2 d3 d4 d5 d6 d7 r with
  | false =>
    rw [hq] at no
    exact no (heard_no (.inl rfl)) (hear_bad p i n _ _ _ _ _ _ _ _ r now hi hd hq w)
  | true =>
    rw [hq] at no
    obtain ⟨h1, _, _⟩ := btB_of hq
    have h2 := ndB_of h1
    obtain ⟨k, hk⟩ : ∃ k : Nat, i = 1792 + (k : Int) := ⟨(i - 1792).toNat, by omega⟩
    subst hk
    have ek : (1792 + (k : Int) - 1792).toNat = k := by omega
    obtain ⟨x, hx, hc⟩ := hw.at_ (k := k) (by omega)
    rcases hc with ⟨hW, ho⟩ | ⟨b, hW, ho, _, hb⟩
    · refine no ?_ (hear_none n _ _ _ _ _ _ _ _ r now (by omega) hd hq (cellW hw.row ho))
      cases ht : tmB now with
      | false => exact heard_no (.inr ht)
      | true => rw [heard_at ht (x := x) (by rw [ek]; exact hx), if_neg (by omega)]
    · cases ht : tmB now with
      | false => exact no (heard_no (.inr ht)) (hear_time n _ _ _ _ _ _ _ _ r now (by omega) hd hq (cellW hw.row ho) ht)
      | true =>
        have hh : heard S true (1792 + (k : Int)) now = some x := by rw [heard_at ht (x := x) (by rw [ek]; exact hx), if_pos hW]
        unfold hearE hearL
        rw [hh]
        dsimp only
        rw [ek]
        by_cases hz : newsK x d0 = 0
        · rw [if_pos hz]
          refine (hear_yes0 hw hx n _ _ _ _ _ _ _ _ r now (by omega) hd hq ho ht hz).mono ?_
          rintro e w' ⟨rfl, h3, h4⟩
          exact ⟨rfl, ⟨P, h3⟩, h4⟩
        · rw [if_neg hz]
          refine (hear_yes1 hw hx n _ _ _ _ _ _ _ _ r now (by omega) hd hq ho ht hz).mono ?_
          rintro e w' ⟨rfl, h3, h4⟩
          refine ⟨?_, ⟨P, h3⟩, h4⟩
          show Ending.returned _ = Ending.returned _
          rw [show (1792 : Int) + (k : Int) - 1792 = (k : Int) from by omega]
#print axioms hear_any
end Go.Proofs.Ytjdfacjfpdfafaa
