/-
  The walks of all and large.
-/
import Derived.Test.YtdohjolgcmokhaaFk
namespace Go.Proofs.Ytdohjolgcmokhaa
open Go.RowKit

/-- Are there too many calls, or sectors? -/
def largeB (z : Int) (len : Nat) : Bool := (decide (4 < z) && decide (z ≤ 64)) || decide (200 < len)

set_option linter.unusedSimpArgs false in
set_option maxHeartbeats 4000000 in
set_option maxRecDepth 100000 in
theorem large_any (z : Int) (a : Option Addr) (len cap : Nat) (w : World) :
    Calls Try.prog 8 #[.int .i64 z, .slice a len cap] w fun e w' => e = .returned (.bool (largeB z len)) ∧ w' = w := by
  unfold largeB
  by_cases c1 : 4 < z
  · by_cases c2 : z ≤ 64
    · rw [decide_eq_true c1, decide_eq_true c2]
      go_enter Try.func8, Try.ntmps8
      go_wp2_with fail
      go_ret
      exact ⟨rfl, rfl⟩
    · rw [decide_eq_true c1, decide_eq_false c2]
      by_cases c3 : 200 < len
      · have g3 : (200 : Int) < (len : Int) := by omega
        rw [decide_eq_true c3]
        go_enter Try.func8, Try.ntmps8
        go_wp2_with fail
        go_ret
        exact ⟨rfl, rfl⟩
      · have g3 : ¬ (200 : Int) < (len : Int) := by omega
        rw [decide_eq_false c3]
        go_enter Try.func8, Try.ntmps8
        go_wp2_with fail
        go_ret
        exact ⟨rfl, rfl⟩
  · rw [decide_eq_false c1, Bool.false_and]
    by_cases c3 : 200 < len
    · have g3 : (200 : Int) < (len : Int) := by omega
      rw [decide_eq_true c3]
      go_enter Try.func8, Try.ntmps8
      go_wp2_with fail
      go_ret
      exact ⟨rfl, rfl⟩
    · have g3 : ¬ (200 : Int) < (len : Int) := by omega
      rw [decide_eq_false c3]
      go_enter Try.func8, Try.ntmps8
      go_wp2_with fail
      go_ret
      exact ⟨rfl, rfl⟩

theorem sec_next (l : List Int) (i : Nat) : l.take (1024 * (i + 1)) = l.take (1024 * i) ++ sec l i := by
  unfold sec
  rw [show 1024 * (i + 1) = 1024 * i + 1024 from by omega, List.take_add, Nat.mul_comm i 1024]

set_option linter.unusedSimpArgs false in
set_option maxHeartbeats 4000000 in
set_option maxRecDepth 100000 in
theorem all_any {w : World} {p B n cap : Nat} {s : FS} (h : IsS w p B n cap s) (ho : s.of = false) :
    Calls Try.prog 16 #[.pointer (some ⟨p, 0, none⟩)] w fun e w' => (∃ a c, e = .returned (.slice a (1024 * n) c) ∧ Told w w' a (1024 * n) c s.cs) ∧ Below w.heap.size w w' := by
  obtain ⟨i0, hi, hz0, hz1, hz2⟩ := info_parts info8
  have SE : Hid (∀ z, Below w.heap.size w z → Calls Try.prog 27 #[.pointer (some ⟨p, 0, none⟩)] z fun e w' => e = .returned (.int .i64 n) ∧ w' = z) := fun z hz => sectors_any (h.next hz)
  have RD : Hid (∀ z, Below w.heap.size w z → ∀ k : Nat, k < n → Calls Try.prog 26 #[.pointer (some ⟨p, 0, none⟩), .int .i64 k] z fun e w' => (∃ a c, e = .returned (.tuple #[.slice a 1024 c, .int .i64 0]) ∧ Told z w' a 1024 c (sec s.cs k)) ∧ Below z.heap.size z w') := fun z hz k hk => read_ok (h.next hz) k hk ho
  have hn2 := h.n2
  have hlen := h.len
  have hoct : Hid (Oct s.cs) := h.oct
  clear h ho
  obtain ⟨C, st, ar, lf, of⟩ := s
  dsimp only at *
  clear st ar lf of
  go_enter Try.func16, Try.ntmps16
  go_wp2_with fail
  go_loopw [3, 4] (fun v u wr => ∃ i : Nat, i ≤ n ∧ u = .int .i64 i ∧ Below w.heap.size w wr ∧ wr.ownsRow w.heap.size 5 1 v (1024 * i) ((C.take (1024 * i)).map (Value.int .u8)))
    (fun _ u _ => n - (intOf u).toNat)
  case atStart => exact ⟨0, Nat.zero_le _, rfl, Below.refl _ _, by simp, .inl ⟨rfl, rfl⟩⟩
  case round =>
    obtain ⟨i, hi6, rfl, hb, hown⟩ := hrel
    have OWN : Hid (wr.ownsRow w.heap.size 5 1 u3 (1024 * i) ((C.take (1024 * i)).map (Value.int .u8))) := hown
    clear hown
    by_cases hlt : i < n
    · have g : (i : Int) < (n : Int) := by omega
      have CS := SE.out wr hb
      have CR := RD.out wr hb i hlt
      have hl : (sec C i).length = 1024 := sec_len hlen hlt
      have TN : Hid (C.take (1024 * (i + 1)) = C.take (1024 * i) ++ sec C i) := sec_next C i
      clear SE RD
      go_wp2_with fail
      refine CS.mono ?_
      rintro e wr ⟨rfl, rfl⟩
      clear CS
      go_wp2_with fail
      refine CR.mono ?_
      rintro e z ⟨⟨a, c, rfl, ht⟩, hz⟩
      clear CR
      obtain ⟨gb, rfl, hgb, hfz⟩ := ht.own (by decide)
      have hb2 : Below w.heap.size w z := Below.andThen hb hz
      have OZ : Hid (z.ownsRow w.heap.size 5 1 u3 (1024 * i) ((C.take (1024 * i)).map (Value.int .u8))) := own_next OWN.out hz
      have NW := ht.row.cells
      have o1 : ∀ v ∈ (sec C i).map (Value.int .u8), v.oneCell' = true := oneU8 _
      clear OWN hz ht hfz hgb
      go_wp2_with (at_builtin; refine wpList_append_own _ rfl _ _ 39 rfl w.heap.size 5 i0 (.int .u8 0) 1 1 Try.underlying39 hi hz0 hz1 hz2 rfl (by decide) _ _ _ rfl OZ.out ⟨gb, 0, none⟩ 1024 c ((sec C i).map (Value.int .u8)) rfl (by rw [List.length_map, hl]) NW o1 (by unfold maxLen; omega) (by omega) hb2.size ?_)
      intro v' w2 hown' hgrow _
      have hb3 : Below w.heap.size w w2 := hb2.grown hgrow hb2.size (fun j hj => (OZ.out.lt j hj).1)
      rw [← List.map_take, ← List.map_append, ← TN.out] at hown'
      have OWN2 : Hid (w2.ownsRow w.heap.size 5 1 v' (1024 * (i + 1)) ((C.take (1024 * (i + 1))).map (Value.int .u8))) := hown'
      clear hown' hgrow NW o1 OZ TN hb2
      go_wp2_with fail
      exact ⟨⟨i + 1, by omega, by go_num, hb3, OWN2.out⟩, by simp [intOf]; omega⟩
    · obtain rfl : i = n := by omega
      have e : C.take (1024 * i) = C := List.take_of_length_le (by omega)
      have O2 := OWN.out
      rw [e] at O2
      obtain ⟨a, cap, rfl, ht⟩ := own_told O2 hoct.out hlen
      have CS := SE.out wr hb
      clear SE RD e O2 OWN
      go_wp2_with fail
      refine CS.mono ?_
      rintro e wr ⟨rfl, rfl⟩
      clear CS
      go_wp2_with fail
      go_ret
      exact ⟨⟨_, _, rfl, ht⟩, hb⟩
#print axioms all_any
end Go.Proofs.Ytdohjolgcmokhaa
