/-
  The states of FlashKnown's flash; a flash and a word beside it, call by call.
-/
import Derived.Test.YtdohjolgcmokhaaFn
import Derived.Test.YtdohjolgcmokhaaFo
namespace Go.Proofs.Ytdohjolgcmokhaa
open Go.RowKit

theorem FS.write_bad {s : FS} {n : Nat} {k d b0 b1 b2 b3 E : Int} (h : refE s.of n k d = E) (hE : E ≠ 0) : s.write n k d b0 b1 b2 b3 = (E, s) := by unfold FS.write; rw [h, if_pos hE]
theorem FS.erase_bad {s : FS} {n : Nat} {k E : Int} (h : refE s.of n k 0 = E) (hE : E ≠ 0) : s.erase n k = (E, s) := by unfold FS.erase; rw [h, if_pos hE]
theorem FS.erase_go {s : FS} {n k : Nat} (ho : s.of = false) (hk : k < n) : s.erase n k = s.step (put s.cs (k * 1024) ff) := by
  unfold FS.erase
  rw [if_neg (by rw [refE_ok ho n k 0 (by omega) (by omega) (by omega) (by omega)]; decide), Int.toNat_natCast]
theorem FS.write_cut {s : FS} {n k d : Nat} (ho : s.of = false) (ha : s.ar = true) (hl : s.lf = 0) (hk : k < n) (hd : d < 256) {b0 b1 b2 b3 q0 q1 q2 q3 : Int} (h0 : s.cs.getD (k * 1024 + d * 4) 0 = q0) (h1 : s.cs.getD (k * 1024 + d * 4 + 1) 0 = q1) (h2 : s.cs.getD (k * 1024 + d * 4 + 2) 0 = q2) (h3 : s.cs.getD (k * 1024 + d * 4 + 3) 0 = q3) (hf : fallB q0 q1 q2 q3 b0 b1 b2 b3 = true) :
    s.write n k d b0 b1 b2 b3 = (7, { s with of := true }) := by
  unfold FS.write
  rw [if_neg (by rw [refE_ok ho n k d (by omega) (by omega) (by omega) (by omega)]; decide)]
  simp only [Int.toNat_natCast]
  rw [h0, h1, h2, h3, if_pos hf, FS.step_cut ha hl]
theorem ff_len : ff.length = 1024 := List.length_replicate
theorem ff_at (l : List Int) (o j : Nat) (hl : o + 1024 ≤ l.length) (h0 : o ≤ j) (h1 : j < o + 1024) : (put l o ff).getD j 0 = 255 := by
  rw [put_getD _ _ _ _ (by rw [ff_len]; exact hl), if_pos ⟨h0, by rw [ff_len]; exact h1⟩, ff, List.getD_eq_getElem?_getD, List.getElem?_replicate, if_pos (by omega)]
  rfl
theorem ff_off (l : List Int) (o j : Nat) (hl : o + 1024 ≤ l.length) (h0 : j < o ∨ o + 1024 ≤ j) : (put l o ff).getD j 0 = l.getD j 0 := by
  rw [put_getD _ _ _ _ (by rw [ff_len]; exact hl), if_neg (by rw [ff_len]; omega)]

def kS1 : FS := ⟨put (newS 2).cs (1 * 1024 + 255 * 4) [1, 2, 3, 4], 1, false, 0, false⟩
def kS2 : FS := ⟨put (newS 2).cs (1 * 1024 + 255 * 4) [1, 2, 3, 4], 1, true, 1, false⟩
def kC3 : List Int := put (put (newS 2).cs (1 * 1024 + 255 * 4) [1, 2, 3, 4]) (0 * 1024) ff
def kS3 : FS := ⟨kC3, 2, true, 0, false⟩
def kS4 : FS := ⟨kC3, 2, true, 0, true⟩
def kS5 : FS := ⟨kC3, 2, false, 0, false⟩
def kS5a : FS := ⟨kC3, 2, true, 0, false⟩
def kC6 : List Int := put kC3 (1 * 1024) ff
def kS6 : FS := ⟨kC6, 3, false, 0, false⟩
def kS7 : FS := ⟨kC6, 3, true, 0, false⟩
def kS8 : FS := ⟨kC6, 3, true, 0, true⟩
theorem kL1 : (put (newS 2).cs (1 * 1024 + 255 * 4) [1, 2, 3, 4]).length = 2048 := by rw [put_len _ _ _ (by rw [newS_len]; decide), newS_len]
theorem kL3 : kC3.length = 2048 := by unfold kC3; rw [put_len _ _ _ (by rw [kL1, ff_len]; decide), kL1]
theorem kQ3 (j : Nat) (h : j < 1024) : kC3.getD j 0 = 255 := ff_at _ _ j (by rw [kL1]; decide) (by omega) (by omega)
theorem kQ6 (j : Nat) (h : j < 1024) : kC6.getD j 0 = 255 := (ff_off _ _ j (by rw [kL3]; decide) (by omega)).trans (kQ3 j h)
theorem ke7 : (newS 2).write 2 1 255 1 2 3 4 = (0, kS1) := FS.write_free (s := newS 2) (n := 2) (k := 1) (d := 255) rfl rfl (by decide) (by decide) (newS_at 2 _ (by decide)) (newS_at 2 _ (by decide)) (newS_at 2 _ (by decide)) (newS_at 2 _ (by decide)) (by decide)
theorem ke12 : kS2.write 2 1 255 2 0 0 0 = (51, kS2) := by
  have h := put4_at (newS 2).cs (1 * 1024 + 255 * 4) 1 2 3 4 (by rw [newS_len]; decide)
  exact FS.write_not (s := kS2) (n := 2) (k := 1) (d := 255) rfl (by decide) (by decide) h.1 h.2.1 h.2.2.1 h.2.2.2 (by decide)
theorem ke14 : kS2.erase 2 0 = (0, kS3) := (FS.erase_go (s := kS2) (n := 2) (k := 0) rfl (by decide)).trans (FS.step_armed rfl (by decide) _)
theorem ke15 : kS3.write 2 0 0 0 0 0 0 = (7, kS4) := FS.write_cut (s := kS3) (n := 2) (k := 0) (d := 0) rfl rfl rfl (by decide) (by decide) (kQ3 _ (by decide)) (kQ3 _ (by decide)) (kQ3 _ (by decide)) (kQ3 _ (by decide)) (by decide)
theorem ke27 : kS5.erase 2 1 = (0, kS6) := (FS.erase_go (s := kS5) (n := 2) (k := 1) rfl (by decide)).trans (FS.step_free rfl _)
theorem ke31 : kS7.erase 2 0 = (7, kS8) := (FS.erase_go (s := kS7) (n := 2) (k := 0) rfl (by decide)).trans (FS.step_cut rfl rfl _)
theorem ke33 : kS7.write 2 0 3 255 255 255 255 = (7, kS8) := FS.write_cut (s := kS7) (n := 2) (k := 0) (d := 3) rfl rfl rfl (by decide) (by decide) (kQ6 _ (by decide)) (kQ6 _ (by decide)) (kQ6 _ (by decide)) (kQ6 _ (by decide)) (by decide)
theorem kWd : wdC kS5.cs (0 * 1024 + 0 * 4) = w4 255 255 255 255 := by
  unfold wdC
  rw [show kS5.cs = kC3 from rfl, kQ3 _ (by decide), kQ3 _ (by decide), kQ3 _ (by decide), kQ3 _ (by decide)]

/-- A flash, and a word in a block beside it. -/
structure KI (w0 w : World) (p B b3 : Nat) (s : FS) : Prop where
  f : IsS w p B 2 2 s
  c : w.heap[b3]? = some (.cells (w4 1 2 3 4) 32 (0, 0))
  b : Below w0.heap.size w0 w
  hp : w0.heap.size ≤ p
  hB : w0.heap.size ≤ B
  h3 : w0.heap.size ≤ b3
  n1 : b3 ≠ p
  n2 : b3 ≠ B
theorem KI.step {w0 w w' : World} {p B b3 : Nat} {s s' : FS} (h : KI w0 w p B b3 s) (k : Kp [p, B] w w') (f : IsS w' p B 2 2 s') : KI w0 w' p B b3 s' :=
  ⟨f, (k.block b3 (lt_of_heap h.c) (by simp [h.n1, h.n2])).trans h.c, Kp.below h.b k h.b.size (by intro i hi; simp at hi; rcases hi with rfl | rfl; exact h.hp; exact h.hB), h.hp, h.hB, h.h3, h.n1, h.n2⟩
theorem KI.next {w0 w w' : World} {p B b3 : Nat} {s : FS} (h : KI w0 w p B b3 s) (k : Below w.heap.size w w') : KI w0 w' p B b3 s :=
  h.step (Kp.of k) (h.f.next k)
theorem KI.al {w0 w : World} {p B b3 : Nat} {s : FS} (h : KI w0 w p B b3 s) (o : Obj) : KI w0 (w.alloc o) p B b3 s := h.next (Below.al (Below.refl _ _) o)
theorem KI.other {w0 w w' : World} {p B b3 p2 B2 : Nat} {s : FS} (h : KI w0 w p B b3 s) (k : Kp [p2, B2] w w') (m1 : w0.heap.size ≤ p2) (m2 : w0.heap.size ≤ B2) (a1 : p ≠ p2) (a2 : p ≠ B2) (a3 : B ≠ p2) (a4 : B ≠ B2) (a5 : b3 ≠ p2) (a6 : b3 ≠ B2) : KI w0 w' p B b3 s :=
  ⟨h.f.kp k (by simp [a1, a2]) (by simp [a3, a4]), (k.block b3 (lt_of_heap h.c) (by simp [a5, a6])).trans h.c, Kp.below h.b k h.b.size (by intro i hi; simp at hi; rcases hi with rfl | rfl; exact m1; exact m2), h.hp, h.hB, h.h3, h.n1, h.n2⟩
theorem KI.cells {w0 w : World} {p B b3 : Nat} {s : FS} (h : KI w0 w p B b3 s) : w.cell? ⟨b3, 0, none⟩ = some (.int .u8 1) ∧ w.cell? ⟨b3, 1, none⟩ = some (.int .u8 2) ∧ w.cell? ⟨b3, 2, none⟩ = some (.int .u8 3) ∧ w.cell? ⟨b3, 3, none⟩ = some (.int .u8 4) := by
  refine ⟨?_, ?_, ?_, ?_⟩ <;> rw [cell_of_row w _ _ _ _ _ h.c] <;> rfl
section
variable {w0 w : World} {p B b3 : Nat} {s : FS}
theorem kw (h : KI w0 w p B b3 s) (hs : s.Ok) (k d b0 b1 b2 b3' : Int) (ho : Oct [b0, b1, b2, b3']) {E : Int} {s' : FS} (he : s.write 2 k d b0 b1 b2 b3' = (E, s')) :
    Calls Try.prog 21 #[.pointer (some ⟨p, 0, none⟩), .int .i64 k, .int .i64 d, .agg #[.int .u8 b0, .int .u8 b1, .int .u8 b2, .int .u8 b3']] w fun e w' => e = .returned (.int .i64 E) ∧ Kp [p, B] w w' ∧ KI w0 w' p B b3 s' := by
  have := write_any h.f hs k d b0 b1 b2 b3' ho
  rw [he] at this
  exact this.mono fun e w' ⟨a, b, c⟩ => ⟨a, c, h.step c b⟩
theorem ke (h : KI w0 w p B b3 s) (hs : s.Ok) (k : Int) {E : Int} {s' : FS} (he : s.erase 2 k = (E, s')) :
    Calls Try.prog 17 #[.pointer (some ⟨p, 0, none⟩), .int .i64 k] w fun e w' => e = .returned (.int .i64 E) ∧ Kp [p, B] w w' ∧ KI w0 w' p B b3 s' := by
  have := erase_any h.f hs k
  rw [he] at this
  exact this.mono fun e w' ⟨a, b, c⟩ => ⟨a, c, h.step c b⟩
theorem kc (h : KI w0 w p B b3 s) (a : Int) {s' : FS} (he : (⟨s.cs, s.st, decide (0 ≤ a), max a 0, s.of⟩ : FS) = s') :
    Calls Try.prog 18 #[.pointer (some ⟨p, 0, none⟩), .int .i64 a] w fun e w' => e = .returned (.tuple #[]) ∧ Kp [p, B] w w' ∧ KI w0 w' p B b3 s' := by
  subst he
  exact (cut_any h.f a).mono fun e w' ⟨a, b, c⟩ => ⟨a, c.more (by simp), h.step (c.more (by simp)) b⟩
theorem kon (h : KI w0 w p B b3 s) {s' : FS} (he : (⟨s.cs, s.st, false, 0, false⟩ : FS) = s') :
    Calls Try.prog 19 #[.pointer (some ⟨p, 0, none⟩)] w fun e w' => e = .returned (.tuple #[]) ∧ Kp [p, B] w w' ∧ KI w0 w' p B b3 s' := by
  subst he
  exact (on_any h.f).mono fun e w' ⟨a, b, c⟩ => ⟨a, c.more (by simp), h.step (c.more (by simp)) b⟩
theorem koff (h : KI w0 w p B b3 s) {x : Bool} (he : s.of = x) : Calls Try.prog 22 #[.pointer (some ⟨p, 0, none⟩)] w fun e w' => e = .returned (.bool x) ∧ w' = w := by
  have := off_any h.f
  rw [he] at this; exact this
theorem kst (h : KI w0 w p B b3 s) {x : Int} (he : s.st = x) : Calls Try.prog 23 #[.pointer (some ⟨p, 0, none⟩)] w fun e w' => e = .returned (.int .i64 x) ∧ w' = w := by
  have := steps_any h.f
  rw [he] at this; exact this
theorem krb (h : KI w0 w p B b3 s) (k : Int) {E : Int} (he : refE s.of 2 k 0 = E) (hE : E ≠ 0) : Calls Try.prog 26 #[.pointer (some ⟨p, 0, none⟩), .int .i64 k] w fun e w' => e = .returned (.tuple #[.slice none 0 0, .int .i64 E]) ∧ w' = w := by
  have := read_bad h.f k (by rw [he]; exact hE)
  rw [he] at this; exact this
theorem kwb (h : KI w0 w p B b3 s) (k d : Int) {E : Int} (he : refE s.of 2 k d = E) (hE : E ≠ 0) : Calls Try.prog 20 #[.pointer (some ⟨p, 0, none⟩), .int .i64 k, .int .i64 d] w fun e w' => e = .returned (.tuple #[.agg #[.int .u8 0, .int .u8 0, .int .u8 0, .int .u8 0], .int .i64 E]) ∧ Below w.heap.size w w' ∧ KI w0 w' p B b3 s := by
  have := word_bad h.f k d (by rw [he]; exact hE)
  rw [he] at this
  exact this.mono fun e w' ⟨a, b⟩ => ⟨a, b, h.next b⟩
theorem kcp (h : KI w0 w p B b3 s) : Calls Try.prog 12 #[.pointer (some ⟨p, 0, none⟩)] w fun e w' => ∃ p2 B2 c2, e = .returned (.pointer (some ⟨p2, 0, none⟩)) ∧ w.heap.size ≤ p2 ∧ w.heap.size ≤ B2 ∧ IsS w' p2 B2 2 c2 s ∧ Below w.heap.size w w' ∧ KI w0 w' p B b3 s :=
  (copy_any h.f).mono fun _ _ ⟨⟨p2, B2, c2, a, b, c, d⟩, f⟩ => ⟨p2, B2, c2, a, b, c, d, f, h.next f⟩
end
#print axioms kcp
#print axioms ke33
end Go.Proofs.Ytdohjolgcmokhaa
