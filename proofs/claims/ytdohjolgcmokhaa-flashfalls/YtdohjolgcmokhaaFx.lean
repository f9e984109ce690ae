/-
  Bits only fall: what a call makes of a flash's bytes.
-/
import Derived.Test.YtdohjolgcmokhaaFv
import Derived.Laws.BitsAllLaws
namespace Go.Proofs.Ytdohjolgcmokhaa
open Go.RowKit

theorem nat_falls (b a : Nat) (ha : a < 256) (h : b &&& a = b) : b &&& (255 - a) = 0 := by
  apply Nat.eq_of_testBit_eq
  intro i
  have h2 := congrArg (fun x => x.testBit i) h
  simp only [Nat.testBit_and] at h2
  rw [show 255 - a = 2 ^ 8 - (a + 1) from by omega, Nat.testBit_and, Nat.testBit_two_pow_sub_succ (by omega), Nat.zero_testBit]
  cases hb : b.testBit i <;> cases ha' : a.testBit i <;> simp_all
theorem an_falls {b a : Int} (hb : 0 ≤ b ∧ b < 256) (ha : 0 ≤ a ∧ a < 256) (h : An b a = b) : bits .andNot .u8 b a = 0 := by
  unfold An at h
  rw [u8_and b a hb.1 hb.2 ha.1 ha.2] at h
  rw [u8_andNot b a hb.1 hb.2 ha.1 ha.2, nat_falls b.toNat a.toNat (by omega) (by omega)]
  rfl
theorem an_self {a : Int} (ha : 0 ≤ a ∧ a < 256) : bits .andNot .u8 a a = 0 := by
  rw [u8_andNot a a ha.1 ha.2 ha.1 ha.2, nat_falls a.toNat a.toNat (by omega) (Nat.and_self _)]
  rfl

/-- What is asked of the bytes behind a call. -/
def FP (c c' : List Int) (g er : Int) : Prop := c'.length = c.length ∧ ∀ k, k < c.length → (g ≠ 0 → c'.getD k 0 = c.getD k 0) ∧ (((k / 1024 : Nat) : Int) ≠ er → bits .andNot .u8 (c'.getD k 0) (c.getD k 0) = 0) ∧ (g = 0 → ((k / 1024 : Nat) : Int) = er → c'.getD k 0 = 255)
theorem fp_same {c : List Int} (ho : Oct c) {g er : Int} (h : g ≠ 0 ∨ er < 0) : FP c c g er :=
  ⟨rfl, fun k _ => ⟨fun _ => rfl, fun _ => an_self (ho.getD k), fun h0 h1 => by rcases h with h | h; exact absurd h0 h; omega⟩⟩
theorem fp_write_go {c : List Int} (ho : Oct c) (o : Nat) (b0 b1 b2 b3 : Int) (hw : Oct [b0, b1, b2, b3]) (hl : o + 4 ≤ c.length) (hf : fallB (c.getD o 0) (c.getD (o + 1) 0) (c.getD (o + 2) 0) (c.getD (o + 3) 0) b0 b1 b2 b3 = true) : FP c (put c o [b0, b1, b2, b3]) 0 (-1) := by
  refine ⟨put_len _ _ _ (by simpa using hl), fun k hk => ⟨fun h => absurd rfl h, fun _ => ?_, fun _ h => by omega⟩⟩
  unfold fallB at hf
  obtain ⟨f0, f1, f2, f3⟩ := (same4_iff _ _ _ _ _ _ _ _).1 hf
  obtain ⟨p0, p1, p2, p3⟩ := put4_at c o b0 b1 b2 b3 hl
  by_cases hin : o ≤ k ∧ k < o + [b0, b1, b2, b3].length
  · have : k = o ∨ k = o + 1 ∨ k = o + 2 ∨ k = o + 3 := by simp at hin; omega
    rcases this with rfl | rfl | rfl | rfl
    · rw [p0]; exact an_falls (hw _ (by simp)) (ho.getD _) f0
    · rw [p1]; exact an_falls (hw _ (by simp)) (ho.getD _) f1
    · rw [p2]; exact an_falls (hw _ (by simp)) (ho.getD _) f2
    · rw [p3]; exact an_falls (hw _ (by simp)) (ho.getD _) f3
  · rw [put_getD _ _ _ _ (by simpa using hl), if_neg hin]
    exact an_self (ho.getD _)
theorem fp_erase_go {c : List Int} (ho : Oct c) (q : Nat) (hl : q * 1024 + 1024 ≤ c.length) : FP c (put c (q * 1024) ff) 0 (q : Int) := by
  have hff : ff.length = 1024 := List.length_replicate
  refine ⟨put_len _ _ _ (by rw [hff]; exact hl), fun k hk => ⟨fun h => absurd rfl h, fun h => ?_, fun _ h => ?_⟩⟩
  · rw [put_getD _ _ _ _ (by rw [hff]; exact hl), if_neg (by rw [hff]; omega)]
    exact an_self (ho.getD _)
  · rw [put_getD _ _ _ _ (by rw [hff]; exact hl), if_pos (by rw [hff]; omega), ff, List.getD_eq_getElem?_getD, List.getElem?_replicate, if_pos (by omega)]
    rfl
theorem fp_step {s : FS} (ho : Oct s.cs) {cs : List Int} {er : Int} (h : FP s.cs cs 0 er) : FP s.cs (s.step cs).2.cs (s.step cs).1 er := by
  by_cases ha : s.ar = true
  · by_cases hz : s.lf = 0
    · rw [FS.step_cut ha hz]; exact fp_same ho (.inl (show (7 : Int) ≠ 0 by decide))
    · rw [FS.step_armed ha hz]; exact h
  · rw [FS.step_free (by simpa using ha)]; exact h
theorem fp_write {s : FS} {n : Nat} (ho : Oct s.cs) (hl : s.cs.length = 1024 * n) (k d b0 b1 b2 b3 : Int) (hw : Oct [b0, b1, b2, b3]) : FP s.cs (s.write n k d b0 b1 b2 b3).2.cs (s.write n k d b0 b1 b2 b3).1 (-1) := by
  unfold FS.write
  by_cases hr : refE s.of n k d = 0
  · rw [if_neg (by rw [hr]; decide)]
    obtain ⟨_, k, d, rfl, rfl, hk, hd⟩ := refE_zero hr
    simp only [Int.toNat_natCast]
    split
    · rename_i hf
      exact fp_step ho (fp_write_go ho _ b0 b1 b2 b3 hw (by omega) hf)
    · exact fp_same ho (.inl (show (51 : Int) ≠ 0 by decide))
  · rw [if_pos hr]; exact fp_same ho (.inl hr)
theorem fp_erase {s : FS} {n : Nat} (ho : Oct s.cs) (hl : s.cs.length = 1024 * n) (k : Int) : FP s.cs (s.erase n k).2.cs (s.erase n k).1 k := by
  unfold FS.erase
  by_cases hr : refE s.of n k 0 = 0
  · rw [if_neg (by rw [hr]; decide)]
    obtain ⟨_, k, d, rfl, _, hk, hd⟩ := refE_zero hr
    simp only [Int.toNat_natCast]
    exact fp_step ho (fp_erase_go ho k (by omega))
  · rw [if_pos hr]; exact fp_same ho (.inl hr)
theorem word_some {w : World} {p B n cap : Nat} {s : FS} (h : IsS w p B n cap s) (k d : Int) : Calls Try.prog 20 #[.pointer (some ⟨p, 0, none⟩), .int .i64 k, .int .i64 d] w fun e w' => (∃ c E, e = .returned (.tuple #[.agg c, .int .i64 E])) ∧ Below w.heap.size w w' := by
  by_cases hr : refE s.of n k d = 0
  · obtain ⟨ho, k, d, rfl, rfl, hk, hd⟩ := refE_zero hr
    exact (word_ok h k d hk hd ho).mono fun e w' ⟨a, b⟩ => ⟨⟨_, _, a⟩, b⟩
  · exact (word_bad h k d hr).mono fun e w' ⟨a, b⟩ => ⟨⟨_, _, a⟩, b⟩
#print axioms fp_erase
#print axioms fp_write
end Go.Proofs.Ytdohjolgcmokhaa
