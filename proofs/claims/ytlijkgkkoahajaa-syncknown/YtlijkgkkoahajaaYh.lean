/-
  Producers, both sides: what a Tick tells, and what is behind it; a pair side by side.
-/
import Derived.Test.YtlijkgkkoahajaaYf
import Derived.Test.YtlijkgkkoahajaaYg
namespace Go.Proofs.Ytlijkgkkoahajaa
open Go.RowKit

theorem tpB_le {t : Int} (h : tpB t = true) : t ≤ 240 := by
  simp [tpB] at h; omega
/-- What a Tick tells, and what is behind it. -/
structure Tk where
  x : Int
  y : Int
  z : Int
  ok : Bool
  due : Int
  n : Int
def tkk (id P top : Int) (g : Bool) (due n now : Int) : Tk :=
  if g = true ∧ tmB now = true ∧ due ≤ now then
    (if top = 0 then ⟨id, 0, 0, true, due + ((now - due) / P + 1) * P, n⟩ else ⟨id, 1, n, true, due + ((now - due) / P + 1) * P, nxt top n⟩)
  else ⟨0, 0, 0, false, due, n⟩
theorem tk_yes0 {id P top : Int} {g : Bool} {due n now : Int} (hg : g = true) (h : tmB now = true) (hd : due ≤ now) (h0 : top = 0) : tkk id P top g due n now = ⟨id, 0, 0, true, due + ((now - due) / P + 1) * P, n⟩ := by
  unfold tkk; rw [if_pos ⟨hg, h, hd⟩, if_pos h0]
theorem tk_yes1 {id P top : Int} {g : Bool} {due n now : Int} (hg : g = true) (h : tmB now = true) (hd : due ≤ now) (h0 : ¬ top = 0) : tkk id P top g due n now = ⟨id, 1, n, true, due + ((now - due) / P + 1) * P, nxt top n⟩ := by
  unfold tkk; rw [if_pos ⟨hg, h, hd⟩, if_neg h0]
theorem tk_no {id P top : Int} {g : Bool} {due n now : Int} (h : g = false ∨ tmB now = false ∨ now < due) : tkk id P top g due n now = ⟨0, 0, 0, false, due, n⟩ := by
  unfold tkk; rw [if_neg]; rintro ⟨h1, h2, h3⟩; rcases h with h | h | h
  · rw [h] at h1; cases h1
  · rw [h] at h2; cases h2
  · omega

/-- What holds of a producer that goes. -/
def Goes (top : Int) (g : Bool) (due n : Int) : Prop := g = true → 0 ≤ due ∧ 1 ≤ n ∧ n ≤ 240 ∧ (top = 0 → n = 1)
theorem Goes.start {top now P : Int} (h : tmB now = true) (hP : 1 ≤ P) : Goes top true (now + P) 1 := fun _ => ⟨by have := (tmB_of h).1; omega, by decide, by decide, fun _ => rfl⟩
theorem Goes.off (top due n : Int) : Goes top false due n := fun h => by cases h
theorem Goes.tick {id P top : Int} {g : Bool} {due n now : Int} (h : Goes top g due n) (hP : 1 ≤ P) (ht : top ≤ 240) : Goes top g (tkk id P top g due n now).due (tkk id P top g due n now).n := by
  intro hg
  obtain ⟨h1, h2, h3, h4⟩ := h hg
  by_cases hc : tmB now = true ∧ due ≤ now
  · have hm : 0 ≤ ((now - due) / P + 1) * P := Int.mul_nonneg (by have := Int.ediv_nonneg (a := now - due) (b := P) (by omega) (by omega); omega) (by omega)
    by_cases h0 : top = 0
    · rw [tk_yes0 hg hc.1 hc.2 h0]
      exact ⟨by show 0 ≤ due + _; omega, h2, h3, h4⟩
    · rw [tk_yes1 hg hc.1 hc.2 h0]
      refine ⟨by show 0 ≤ due + _; omega, ?_, ?_, fun e => absurd e h0⟩
      · show 1 ≤ nxt top n; unfold nxt; split <;> omega
      · show nxt top n ≤ 240; unfold nxt; split <;> omega
  · rw [tk_no (by by_cases ht : tmB now = true
                  · right; right; by_cases hd : due ≤ now; exact absurd ⟨ht, hd⟩ hc; omega
                  · right; left; simpa using ht)]
    exact ⟨h1, h2, h3, h4⟩

theorem tick_all (p : Nat) (id P top : Int) (g : Bool) (due n now : Int) (hi : id ≤ 2047) (ht : top ≤ 240) (hP : 1 ≤ P) (hP2 : P ≤ 1099511627776) (hG : Goes top g due n) (w : World) (hp : w.heap[p]? = some (.cells (prC id top P g due n) 81 (0, 0))) :
    Calls Try.prog 15 #[.pointer (some ⟨p, 0, none⟩), .int .i64 now] w fun e w' => e = .returned (.tuple #[frV (tkk id P top g due n now).x (tkk id P top g due n now).y (tkk id P top g due n now).z 0 0 0 0 0 0 0 false, .bool (tkk id P top g due n now).ok]) ∧ w'.heap[p]? = some (.cells (prC id top P g (tkk id P top g due n now).due (tkk id P top g due n now).n) 81 (0, 0)) ∧ Kp [p] w w' := by
  have no : ∀ (hn : g = false ∨ tmB now = false ∨ now < due), Calls Try.prog 15 #[.pointer (some ⟨p, 0, none⟩), .int .i64 now] w (fun e w' => e = .returned (.tuple #[frV 0 0 0 0 0 0 0 0 0 0 false, .bool false]) ∧ Below w.heap.size w w') → Calls Try.prog 15 #[.pointer (some ⟨p, 0, none⟩), .int .i64 now] w fun e w' => e = .returned (.tuple #[frV (tkk id P top g due n now).x (tkk id P top g due n now).y (tkk id P top g due n now).z 0 0 0 0 0 0 0 false, .bool (tkk id P top g due n now).ok]) ∧ w'.heap[p]? = some (.cells (prC id top P g (tkk id P top g due n now).due (tkk id P top g due n now).n) 81 (0, 0)) ∧ Kp [p] w w' := by
    intro hn h
    rw [tk_no hn]
    refine h.mono ?_
    rintro e w' ⟨rfl, hb⟩
    exact ⟨rfl, blk11 hb hp, Kp.of hb⟩
  cases g with
  | false => exact no (.inl rfl) (tick_off p id top P due n now w hp)
  | true =>
    cases h : tmB now with
    | false => exact no (.inr (.inl h)) (tick_none p id top P due n now h w hp)
    | true =>
      by_cases hd : now < due
      · exact no (.inr (.inr hd)) (tick_early p id top P due n now h hd w hp)
      · obtain ⟨g1, g2, g3, g4⟩ := hG rfl
        by_cases h0 : top = 0
        · rw [tk_yes0 rfl h (by omega) h0]
          obtain rfl := g4 h0
          subst h0
          exact tick_0 p id P due 1 now hi h (by omega) hP hP2 (by omega) g1 w hp
        · rw [tk_yes1 rfl h (by omega) h0]
          exact tick_1 p id top P due n now h0 (by omega) hi h (by omega) hP hP2 (by omega) g1 w hp

theorem utick_all (p : Nat) (id P top : Int) (g : Bool) (due n now : Int) (ht0 : 0 ≤ top) (hP : 1 ≤ P) (hP2 : P ≤ 1099511627776) (hG : Goes top g due n) (w : World) (hp : w.heap[p]? = some (.cells (urC id P top g due n) 36 (0, 0))) :
    Calls Try.prog 16 #[.pointer (some ⟨p, 0, none⟩), .int .i64 now] w fun e w' => e = .returned (.tuple #[frV (tkk id P top g due n now).x (tkk id P top g due n now).y (tkk id P top g due n now).z 0 0 0 0 0 0 0 false, .bool (tkk id P top g due n now).ok]) ∧ w'.heap[p]? = some (.cells (urC id P top g (tkk id P top g due n now).due (tkk id P top g due n now).n) 36 (0, 0)) ∧ Kp [p] w w' := by
  have no : ∀ (hn : g = false ∨ tmB now = false ∨ now < due), Calls Try.prog 16 #[.pointer (some ⟨p, 0, none⟩), .int .i64 now] w (fun e w' => e = .returned (.tuple #[frV 0 0 0 0 0 0 0 0 0 0 false, .bool false]) ∧ Below w.heap.size w w') → Calls Try.prog 16 #[.pointer (some ⟨p, 0, none⟩), .int .i64 now] w fun e w' => e = .returned (.tuple #[frV (tkk id P top g due n now).x (tkk id P top g due n now).y (tkk id P top g due n now).z 0 0 0 0 0 0 0 false, .bool (tkk id P top g due n now).ok]) ∧ w'.heap[p]? = some (.cells (urC id P top g (tkk id P top g due n now).due (tkk id P top g due n now).n) 36 (0, 0)) ∧ Kp [p] w w' := by
    intro hn h
    rw [tk_no hn]
    refine h.mono ?_
    rintro e w' ⟨rfl, hb⟩
    exact ⟨rfl, blk11 hb hp, Kp.of hb⟩
  cases g with
  | false => exact no (.inl rfl) (utick_off p id P top due n now w hp)
  | true =>
    cases h : tmB now with
    | false => exact no (.inr (.inl h)) (utick_none p id P top due n now h w hp)
    | true =>
      by_cases hd : now < due
      · exact no (.inr (.inr hd)) (utick_early p id P top due n now h hd w hp)
      · obtain ⟨g1, g2, g3, g4⟩ := hG rfl
        by_cases h0 : top = 0
        · rw [tk_yes0 rfl h (by omega) h0]
          subst h0
          exact utick_0 p id P due n now h (by omega) hP hP2 g1 w hp
        · rw [tk_yes1 rfl h (by omega) h0]
          by_cases hN : top ≤ n
          · exact utick_1 p id P top due n now (by omega) hN h (by omega) hP hP2 (by omega) g1 w hp
          · exact utick_2 p id P top due n now (by omega) (by omega) h (by omega) hP hP2 (by omega) g1 w hp

/-- What Due tells. -/
theorem due_all (p : Nat) (id P top : Int) (g : Bool) (due n : Int) (w : World) (hp : w.heap[p]? = some (.cells (prC id top P g due n) 81 (0, 0))) :
    Calls Try.prog 17 #[.pointer (some ⟨p, 0, none⟩)] w fun e w' => e = .returned (.tuple #[.int .i64 (if g = true then due else 0), .bool g]) ∧ w' = w := by
  cases g
  · exact due_no p id top P due n w hp
  · exact due_yes p id top P due n w hp
/-- What Start does. -/
theorem start_all (p : Nat) (id P top : Int) (g : Bool) (due n now : Int) (hP : 1 ≤ P) (hP2 : P ≤ 1099511627776) (w : World) (hp : w.heap[p]? = some (.cells (prC id top P g due n) 81 (0, 0))) :
    Calls Try.prog 12 #[.pointer (some ⟨p, 0, none⟩), .int .i64 now] w fun e w' => e = .returned (.int .i64 (if tmB now = true then 0 else 2)) ∧ w'.heap[p]? = some (.cells (prC id top P (tmB now || g) (if tmB now = true then now + P else due) (if tmB now = true then 1 else n)) 81 (0, 0)) ∧ Kp [p] w w' := by
  cases h : tmB now with
  | false =>
    refine (start_no p now h w).mono ?_
    rintro e w' ⟨rfl, rfl⟩
    exact ⟨rfl, hp, Kp.refl _ _⟩
  | true => exact start_ok p id top P g due n now h hP hP2 w hp
theorem ustart_all (p : Nat) (id P top : Int) (g : Bool) (due n now : Int) (hP : 1 ≤ P) (hP2 : P ≤ 1099511627776) (w : World) (hp : w.heap[p]? = some (.cells (urC id P top g due n) 36 (0, 0))) :
    Calls Try.prog 13 #[.pointer (some ⟨p, 0, none⟩), .int .i64 now] w fun e w' => e = .returned (.int .i64 (if tmB now = true then 0 else 2)) ∧ w'.heap[p]? = some (.cells (urC id P top (tmB now || g) (if tmB now = true then now + P else due) (if tmB now = true then 1 else n)) 36 (0, 0)) ∧ Kp [p] w w' := by
  cases h : tmB now with
  | false =>
    refine (ustart_no p now h w).mono ?_
    rintro e w' ⟨rfl, rfl⟩
    exact ⟨rfl, hp, Kp.refl _ _⟩
  | true => exact ustart_ok p id P top g due n now h hP hP2 w hp
theorem Goes.started {top : Int} {g : Bool} {due n now P : Int} (h : Goes top g due n) (hP : 1 ≤ P) : Goes top (tmB now || g) (if tmB now = true then now + P else due) (if tmB now = true then 1 else n) := by
  cases ht : tmB now
  · exact h
  · exact Goes.start ht hP

/-- A pair, the program's and the document's, that stand the same. -/
structure Pair (w : World) (p q : Nat) (id P top : Int) (g : Bool) (due n : Int) : Prop where
  hp : w.heap[p]? = some (.cells (prC id top P g due n) 81 (0, 0))
  hq : w.heap[q]? = some (.cells (urC id P top g due n) 36 (0, 0))
  go : Goes top g due n
theorem Pair.ne {w : World} {p q : Nat} {id P top : Int} {g : Bool} {due n : Int} (h : Pair w p q id P top g due n) : p ≠ q := by
  intro e; subst e; have := h.hp.symm.trans h.hq; simp at this
theorem Pair.next {w w' : World} {p q : Nat} {id P top : Int} {g : Bool} {due n : Int} (h : Pair w p q id P top g due n) (hb : Below w.heap.size w w') : Pair w' p q id P top g due n := ⟨blk11 hb h.hp, blk11 hb h.hq, h.go⟩

/-- A call of a producer that came in. -/
structure Opx where
  k : Int
  now : Int
/-- A row of them in memory. -/
structure IsOpx (w : World) (a : Option Addr) (len : Nat) (l : List Opx) : Prop where
  size : l.length = len
  good : ∀ x ∈ l, 0 ≤ x.k ∧ x.k < 256
  at_ : 0 < len → ∃ b off, a = some ⟨b, off, none⟩ ∧ ∀ (i : Nat) (x : Opx), l[i]? = some x → w.cell? ⟨b, off + i * 2, none⟩ = some (.int .u8 x.k) ∧ w.cell? ⟨b, off + i * 2 + 1, none⟩ = some (.int .i64 x.now)
theorem IsOpx.next {w w' : World} {a : Option Addr} {len : Nat} {l : List Opx} (h : IsOpx w a len l) (hb : Below w.heap.size w w') : IsOpx w' a len l where
  size := h.size
  good := h.good
  at_ := fun hp => by
    obtain ⟨b, off, e, hc⟩ := h.at_ hp
    exact ⟨b, off, e, fun i x hx => ⟨cl11 hb (hc i x hx).1, cl11 hb (hc i x hx).2⟩⟩
#print axioms utick_all
end Go.Proofs.Ytlijkgkkoahajaa
