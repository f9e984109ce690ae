/-
  Consumers, both sides: what a frame that is heard does, side by side.
-/
import Derived.Test.YtlijkgkkoahajaaYm
import Derived.Test.YtlijkgkkoahajaaYn
import Derived.Test.YtlijkgkkoahajaaYo
namespace Go.Proofs.Ytlijkgkkoahajaa
open Go.RowKit

/-- What a consumer has heard. -/
structure Cst where
  hd : Bool
  a : Int
  n : Int
  lo : Int
  wr : Int
/-- What holds of it. -/
structure Cst.Ok (top : Int) (c : Cst) : Prop where
  a0 : 0 ≤ c.a
  a1 : c.a ≤ 1099511627776
  n_ : c.hd = true → top ≠ 0 → 1 ≤ c.n ∧ c.n ≤ top
/-- A frame does this to the program's consumer. -/
def HearsP (p : Nat) (id top W : Int) (c : Cst) (i n d0 d1 d2 d3 d4 d5 d6 d7 : Int) (r : Bool) (now x : Int) (ok : Bool) (c' : Cst) : Prop :=
  ∀ w : World, w.heap[p]? = some (.cells (csC id top W c.hd c.a c.n c.lo c.wr) 86 (0, 0)) → Calls Try.prog 20 #[.pointer (some ⟨p, 0, none⟩), frV i n d0 d1 d2 d3 d4 d5 d6 d7 r, .int .i64 now] w fun e w' => e = .returned (.tuple #[.int .u8 x, .bool ok]) ∧ w'.heap[p]? = some (.cells (csC id top W c'.hd c'.a c'.n c'.lo c'.wr) 86 (0, 0)) ∧ Kp [p] w w'
/-- And this to the document's. -/
def HearsU (p : Nat) (id top W : Int) (c : Cst) (i n d0 d1 d2 d3 d4 d5 d6 d7 : Int) (r : Bool) (now x : Int) (ok : Bool) (c' : Cst) : Prop :=
  ∀ w : World, w.heap[p]? = some (.cells (vsC id W top c.hd c.a c.n c.lo c.wr) 58 (0, 0)) → Calls Try.prog 21 #[.pointer (some ⟨p, 0, none⟩), frV i n d0 d1 d2 d3 d4 d5 d6 d7 r, .int .i64 now] w fun e w' => e = .returned (.tuple #[.int .u8 x, .bool ok]) ∧ w'.heap[p]? = some (.cells (vsC id W top c'.hd c'.a c'.n c'.lo c'.wr) 58 (0, 0)) ∧ Kp [p] w w'

theorem hears_skip {p : Nat} {id top W : Int} {c : Cst} {i n d0 d1 d2 d3 d4 d5 d6 d7 : Int} {r : Bool} {now : Int} (h : i ≠ id ∨ r = true ∨ tmB now = false) : HearsP p id top W c i n d0 d1 d2 d3 d4 d5 d6 d7 r now 0 false c := by
  intro w hp
  have go : Calls Try.prog 20 #[.pointer (some ⟨p, 0, none⟩), frV i n d0 d1 d2 d3 d4 d5 d6 d7 r, .int .i64 now] w (fun e w' => e = .returned (.tuple #[.int .u8 0, .bool false]) ∧ Below w.heap.size w w') := by
    by_cases hi : i = id
    · subst hi
      cases r with
      | true => exact hear_remote p i top W _ _ _ _ _ n d0 d1 d2 d3 d4 d5 d6 d7 now w hp
      | false => exact hear_time p i top W _ _ _ _ _ n d0 d1 d2 d3 d4 d5 d6 d7 now (by rcases h with h | h | h; exact absurd rfl h; cases h; exact h) w hp
    · exact hear_other p id top W _ _ _ _ _ i n d0 d1 d2 d3 d4 d5 d6 d7 now r hi w hp
  refine go.mono ?_
  rintro e w' ⟨rfl, hb⟩
  exact ⟨rfl, blk11 hb hp, Kp.of hb⟩
theorem uhears_skip {p : Nat} {id top W : Int} {c : Cst} {i n d0 d1 d2 d3 d4 d5 d6 d7 : Int} {r : Bool} {now : Int} (h : i ≠ id ∨ r = true ∨ tmB now = false) : HearsU p id top W c i n d0 d1 d2 d3 d4 d5 d6 d7 r now 0 false c := by
  intro w hp
  have go : Calls Try.prog 21 #[.pointer (some ⟨p, 0, none⟩), frV i n d0 d1 d2 d3 d4 d5 d6 d7 r, .int .i64 now] w (fun e w' => e = .returned (.tuple #[.int .u8 0, .bool false]) ∧ Below w.heap.size w w') := by
    by_cases hi : i = id
    · subst hi
      cases r with
      | true => exact uhear_remote p i top W _ _ _ _ _ n d0 d1 d2 d3 d4 d5 d6 d7 now w hp
      | false => exact uhear_time p i top W _ _ _ _ _ n d0 d1 d2 d3 d4 d5 d6 d7 now (by rcases h with h | h | h; exact absurd rfl h; cases h; exact h) w hp
    · exact uhear_other p id top W _ _ _ _ _ i n d0 d1 d2 d3 d4 d5 d6 d7 now r hi w hp
  refine go.mono ?_
  rintro e w' ⟨rfl, hb⟩
  exact ⟨rfl, blk11 hb hp, Kp.of hb⟩

/-- Is it a frame of the beat? -/
def isB (id top n d0 d1 d2 d3 d4 d5 d6 d7 : Int) : Bool := if top = 0 then sameF id n d0 d1 d2 d3 d4 d5 d6 d7 false id 0 0 0 0 0 0 0 0 0 false else decide (1 ≤ d0) && (decide (d0 ≤ top) && sameF id n d0 d1 d2 d3 d4 d5 d6 d7 false id 1 d0 0 0 0 0 0 0 0 false)
theorem number_all (id top n d0 d1 d2 d3 d4 d5 d6 d7 : Int) (hi : id ≤ 2047) (hd : 0 ≤ d0 ∧ d0 < 256) (X : World) : Calls Try.prog 40 #[btV id top, frV id n d0 d1 d2 d3 d4 d5 d6 d7 false] X fun e w' => e = .returned (.tuple #[.int .u8 (if top = 0 then 0 else d0), .bool (isB id top n d0 d1 d2 d3 d4 d5 d6 d7)]) ∧ Below X.heap.size X w' := by
  unfold isB
  by_cases h : top = 0
  · subst h
    exact number_0 id id n d0 d1 d2 d3 d4 d5 d6 d7 false hi X
  · rw [if_neg h, if_neg h]
    exact number_1 id top id n d0 d1 d2 d3 d4 d5 d6 d7 false hi h hd X
theorem sameF_own (id n k d0 d1 d2 d3 d4 d5 d6 d7 e0 : Int) : sameF id n d0 d1 d2 d3 d4 d5 d6 d7 false id k e0 0 0 0 0 0 0 0 false = (decide (n = k) && same8 d0 d1 d2 d3 d4 d5 d6 d7 e0 0 0 0 0 0 0 0) := by
  simp [sameF]
  rw [Bool.eq_iff_iff]
  simp

theorem hears_wrong {p : Nat} {id top W : Int} {c : Cst} {n d0 d1 d2 d3 d4 d5 d6 d7 now : Int} (hi : id ≤ 2047) (hd : 0 ≤ d0 ∧ d0 < 256) (h : tmB now = true) (hB : isB id top n d0 d1 d2 d3 d4 d5 d6 d7 = false) (hw : 0 ≤ c.wr ∧ c.wr ≤ 1000000) : HearsP p id top W c id n d0 d1 d2 d3 d4 d5 d6 d7 false now 0 false ⟨c.hd, c.a, c.n, c.lo, c.wr + 1⟩ := by
  intro w hp
  have NU := fun X => number_all id top n d0 d1 d2 d3 d4 d5 d6 d7 hi hd X
  rw [hB] at NU
  exact hear_wrong p id top W _ _ _ _ _ n d0 d1 d2 d3 d4 d5 d6 d7 now _ NU h (w64 _ (by omega) (by omega)) w hp
theorem uhears_wrong {p : Nat} {id top W : Int} {c : Cst} {n d0 d1 d2 d3 d4 d5 d6 d7 now : Int} (ht0 : 0 ≤ top) (h : tmB now = true) (hB : isB id top n d0 d1 d2 d3 d4 d5 d6 d7 = false) (hw : 0 ≤ c.wr ∧ c.wr ≤ 1000000) : HearsU p id top W c id n d0 d1 d2 d3 d4 d5 d6 d7 false now 0 false ⟨c.hd, c.a, c.n, c.lo, c.wr + 1⟩ := by
  intro w hp
  have hww := w64 (c.wr + 1) (by omega) (by omega)
  unfold isB at hB
  by_cases h0 : top = 0
  · subst h0
    rw [if_pos rfl, sameF_own] at hB
    by_cases hn : n = 0
    · subst hn
      exact uwrong_2 p id W _ _ _ _ _ d0 d1 d2 d3 d4 d5 d6 d7 now h (by simpa using hB) hww w hp
    · exact uwrong_1 p id W _ _ _ _ _ n d0 d1 d2 d3 d4 d5 d6 d7 now h hn hww w hp
  · rw [if_neg h0, sameF_own] at hB
    by_cases hn : n = 0
    · subst hn
      exact uwrong_3 p id top W _ _ _ _ _ d0 d1 d2 d3 d4 d5 d6 d7 now h (by omega) hww w hp
    · by_cases hn1 : n = 1
      · subst hn1
        by_cases h1 : d0 < 1
        · exact uwrong_5 p id top W _ _ _ _ _ d0 d1 d2 d3 d4 d5 d6 d7 now h (by omega) h1 hww w hp
        · by_cases h2 : top < d0
          · exact uwrong_6 p id top W _ _ _ _ _ d0 d1 d2 d3 d4 d5 d6 d7 now h (by omega) (by omega) h2 hww w hp
          · rw [decide_eq_true (show 1 ≤ d0 by omega), decide_eq_true (show d0 ≤ top by omega)] at hB
            exact uwrong_7 p id top W _ _ _ _ _ d0 d1 d2 d3 d4 d5 d6 d7 now h (by omega) (by omega) (by omega) (by simpa using hB) hww w hp
      · exact uwrong_4 p id top W _ _ _ _ _ n d0 d1 d2 d3 d4 d5 d6 d7 now h (by omega) hn hn1 hww w hp

/-- What a frame of the beat makes of it. -/
def Cst.hear (top : Int) (c : Cst) (d0 now : Int) : Cst := ⟨true, now, if top = 0 then 0 else d0, if c.hd = true ∧ top ≠ 0 then c.lo + gap top c.n d0 else c.lo, c.wr⟩
theorem hears_right {p : Nat} {id top W : Int} {c : Cst} {n d0 d1 d2 d3 d4 d5 d6 d7 now : Int} (hc : c.Ok top) (hi : id ≤ 2047) (ht : top ≤ 240) (hd : 0 ≤ d0 ∧ d0 < 256) (h : tmB now = true) (hB : isB id top n d0 d1 d2 d3 d4 d5 d6 d7 = true) (hl : 0 ≤ c.lo ∧ c.lo ≤ 1000000) : HearsP p id top W c id n d0 d1 d2 d3 d4 d5 d6 d7 false now (if top = 0 then 0 else d0) true (c.hear top d0 now) := by
  intro w hp
  have NU := fun X => number_all id top n d0 d1 d2 d3 d4 d5 d6 d7 hi hd X
  rw [hB] at NU
  obtain ⟨chd, ca, cn, clo, cwr⟩ := c
  cases chd with
  | false =>
    have := hear_first p id top W _ _ _ _ n d0 d1 d2 d3 d4 d5 d6 d7 now _ NU h w hp
    simpa [Cst.hear] using this
  | true =>
    by_cases h0 : top = 0
    · subst h0
      have := hear_0 p id W _ _ _ _ n d0 d1 d2 d3 d4 d5 d6 d7 now _ NU h w hp
      simpa [Cst.hear] using this
    · have hb : 1 ≤ d0 ∧ d0 ≤ top := by
        unfold isB at hB; rw [if_neg h0] at hB; simp at hB; exact ⟨hB.1, hB.2.1⟩
      rw [if_neg h0] at NU ⊢
      have hn : 1 ≤ cn ∧ cn ≤ top := hc.n_ rfl h0
      have hl' : 0 ≤ clo ∧ clo ≤ 1000000 := hl
      have GI := gap_in hn hb
      have := hear_more p id top W _ _ _ _ n d0 d1 d2 d3 d4 d5 d6 d7 now _ NU h h0 hn hb ht (w64 (clo + gap top cn d0) (by omega) (by omega)) w hp
      simpa [Cst.hear, h0] using this
theorem uhears_right {p : Nat} {id top W : Int} {c : Cst} {n d0 d1 d2 d3 d4 d5 d6 d7 now : Int} (hc : c.Ok top) (ht0 : 0 ≤ top) (ht : top ≤ 240) (h : tmB now = true) (hB : isB id top n d0 d1 d2 d3 d4 d5 d6 d7 = true) (hl : 0 ≤ c.lo ∧ c.lo ≤ 1000000) : HearsU p id top W c id n d0 d1 d2 d3 d4 d5 d6 d7 false now (if top = 0 then 0 else d0) true (c.hear top d0 now) := by
  intro w hp
  unfold isB at hB
  by_cases h0 : top = 0
  · subst h0
    rw [if_pos rfl, sameF_own] at hB
    simp at hB
    obtain ⟨rfl, hB⟩ := hB
    have := uright_0 p id W _ _ _ _ _ d0 d1 d2 d3 d4 d5 d6 d7 now h hB w hp
    simpa [Cst.hear] using this
  · rw [if_neg h0, sameF_own] at hB
    simp at hB
    obtain ⟨h1, h2, rfl, hB⟩ := hB
    obtain ⟨chd, ca, cn, clo, cwr⟩ := c
    cases chd with
    | false =>
      have := uright_1 p id top W _ _ _ _ d0 d1 d2 d3 d4 d5 d6 d7 now h (by omega) h1 h2 hB w hp
      simpa [Cst.hear, h0] using this
    | true =>
      have := uright_2 p id top W _ _ _ _ d0 d1 d2 d3 d4 d5 d6 d7 now h (by omega) ht (hc.n_ rfl h0) h1 h2 hB hl w hp
      simpa [Cst.hear, h0] using this
theorem Cst.Ok.hear {top : Int} {c : Cst} {id n d0 d1 d2 d3 d4 d5 d6 d7 now : Int} (h : tmB now = true) (hB : isB id top n d0 d1 d2 d3 d4 d5 d6 d7 = true) : (c.hear top d0 now).Ok top := by
  obtain ⟨t0, t1⟩ := tmB_of h
  refine ⟨t0, t1, fun _ h0 => ?_⟩
  unfold isB at hB; rw [if_neg h0] at hB; simp at hB
  simp [Cst.hear, h0]
  exact ⟨hB.1, hB.2.1⟩

/-- Both, side by side: the same is told, and the two stand the same behind it. -/
theorem hear_two (p q : Nat) (id top W : Int) (c : Cst) (i n d0 d1 d2 d3 d4 d5 d6 d7 : Int) (r : Bool) (now : Int) (hc : c.Ok top) (hi : id ≤ 2047) (ht0 : 0 ≤ top) (ht : top ≤ 240) (hd : 0 ≤ d0 ∧ d0 < 256) (hl : 0 ≤ c.lo ∧ c.lo ≤ 1000000) (hw : 0 ≤ c.wr ∧ c.wr ≤ 1000000) :
    ∃ (x : Int) (ok : Bool) (c' : Cst), c'.Ok top ∧ (0 ≤ c'.lo ∧ c'.lo ≤ c.lo + 240) ∧ (0 ≤ c'.wr ∧ c'.wr ≤ c.wr + 1) ∧ HearsP p id top W c i n d0 d1 d2 d3 d4 d5 d6 d7 r now x ok c' ∧ HearsU q id top W c i n d0 d1 d2 d3 d4 d5 d6 d7 r now x ok c' := by
  by_cases h : i ≠ id ∨ r = true ∨ tmB now = false
  · exact ⟨0, false, c, hc, by omega, by omega, hears_skip h, uhears_skip h⟩
  · have h1 : i = id := by
      by_cases e : i = id
      · exact e
      · exact absurd (.inl e) h
    have h2 : r = false := by cases r; rfl; exact absurd (.inr (.inl rfl)) h
    have h3 : tmB now = true := by cases e : tmB now; exact absurd (.inr (.inr e)) h; rfl
    subst h1 h2
    cases hB : isB i top n d0 d1 d2 d3 d4 d5 d6 d7 with
    | false => exact ⟨0, false, ⟨c.hd, c.a, c.n, c.lo, c.wr + 1⟩, ⟨hc.a0, hc.a1, hc.n_⟩, by show 0 ≤ c.lo ∧ c.lo ≤ c.lo + 240; omega, by show 0 ≤ c.wr + 1 ∧ c.wr + 1 ≤ c.wr + 1; omega, hears_wrong hi hd h3 hB hw, uhears_wrong ht0 h3 hB hw⟩
    | true =>
      refine ⟨_, true, _, Cst.Ok.hear h3 hB, ?_, ?_, hears_right hc hi ht hd h3 hB hl, uhears_right hc ht0 ht h3 hB hl⟩
      · show 0 ≤ (if c.hd = true ∧ top ≠ 0 then c.lo + gap top c.n d0 else c.lo) ∧ (if c.hd = true ∧ top ≠ 0 then c.lo + gap top c.n d0 else c.lo) ≤ c.lo + 240
        split
        · rename_i hh
          have hb : 1 ≤ d0 ∧ d0 ≤ top := by
            unfold isB at hB; rw [if_neg hh.2] at hB; simp at hB; exact ⟨hB.1, hB.2.1⟩
          have := gap_in (hc.n_ hh.1 hh.2) hb
          omega
        · omega
      · show 0 ≤ c.wr ∧ c.wr ≤ c.wr + 1
        omega
#print axioms hear_two
end Go.Proofs.Ytlijkgkkoahajaa
