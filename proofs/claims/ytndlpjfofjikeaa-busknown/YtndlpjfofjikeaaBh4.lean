/-
  The walks of the heap's up, down, Push and Pop, at few that wait.
-/
import Derived.Test.YtndlpjfofjikeaaBo
namespace Go.Proofs.Ytndlpjfofjikeaa
open Go.RowKit

/-- A list of the bus's, changed in its own memory. -/
theorem IsB.own' {w w' : World} {base p g n cap : Nat} {l l' : List Sn} {ct : Int} (h : IsB w base p (.slice (some ⟨g, 0, none⟩) n cap) l ct) (k : Kp [g] w w') (hl : IsL w' base (.slice (some ⟨g, 0, none⟩) n cap) l') : IsB w' base p (.slice (some ⟨g, 0, none⟩) n cap) l' ct := by
  have := h.ne
  exact ⟨by rw [k.block p (lt_of_heap h.head) (by simp; omega)]; exact h.head, hl, h.lt⟩
theorem IsB.old {w : World} {base p g n cap : Nat} {l : List Sn} {ct : Int} (h : IsB w base p (.slice (some ⟨g, 0, none⟩) n cap) l ct) : base ≤ g ∧ g < w.heap.size := h.own.lt g rfl

set_option linter.unusedSimpArgs false in
set_option maxHeartbeats 4000000 in
set_option maxRecDepth 100000 in
theorem up_zero (p : Nat) (w : World) : Calls Try.prog 43 #[.iface 69 (.pointer (some ⟨p, 0, none⟩)), .int .i64 0] w fun e w' => e = .returned (.tuple #[]) ∧ w' = w := by
  go_enter Try.func43, Try.ntmps43
  go_wp2_with fail
  go_loopw [1] (fun u wr => u = .int .i64 0 ∧ wr = w) (fun _ _ => 0)
  case atStart => exact ⟨rfl, rfl⟩
  case round =>
    obtain ⟨rfl, rfl⟩ := hrel
    go_wp2_with fail
    go_end0
    exact ⟨rfl, rfl⟩

set_option linter.unusedSimpArgs false in
set_option maxHeartbeats 4000000 in
set_option maxRecDepth 100000 in
theorem up_one {w : World} {base p g cap : Nat} {x y : Sn} {ct : Int} (h : IsB w base p (.slice (some ⟨g, 0, none⟩) 2 cap) [x, y] ct) (ha : aheadB y x = true) :
    Calls Try.prog 43 #[.iface 69 (.pointer (some ⟨p, 0, none⟩)), .int .i64 1] w fun e w' => e = .returned (.tuple #[]) ∧ IsB w' base p (.slice (some ⟨g, 0, none⟩) 2 cap) [y, x] ct ∧ Kp [g] w w' := by
  have LS := less_any h.own 1 0 y x rfl rfl
  rw [ha] at LS
  have M1 := meth_less 234 (by decide) p w _ h.c0
  have HB : Hid (IsB w base p (.slice (some ⟨g, 0, none⟩) 2 cap) [x, y] ct) := h
  clear h ha
  go_enter Try.func43, Try.ntmps43
  go_wp2_with fail
  go_loopw [1] (fun u wr => (u = .int .i64 1 ∧ wr = w) ∨ (u = .int .i64 0 ∧ IsB wr base p (.slice (some ⟨g, 0, none⟩) 2 cap) [y, x] ct ∧ Kp [g] w wr)) (fun u _ => (intOf u).toNat)
  case atStart => exact .inl ⟨rfl, rfl⟩
  case round =>
    rcases hrel with ⟨rfl, rfl⟩ | ⟨rfl, H2, K2⟩
    · go_wp2_with fail
      refine LS.mono ?_
      rintro e z ⟨rfl, bz⟩
      clear LS M1
      have Hz := HB.out.next bz
      have SWP := swap_any Hz.own 0 1 x y rfl rfl
      have M2 := meth_swap 234 (by decide) p z _ Hz.c0
      have HZ : Hid _ := Hz
      clear Hz
      go_wp2_with fail
      refine SWP.mono ?_
      rintro e z2 ⟨rfl, L2, k2⟩
      clear SWP M2
      have RES : Hid (IsB z2 base p (.slice (some ⟨g, 0, none⟩) 2 cap) [y, x] ct ∧ Kp [g] wr z2) := ⟨HZ.out.own' k2 L2, (Kp.of bz).trans k2⟩
      clear L2 k2 bz
      go_wp2_with fail
      exact ⟨.inr ⟨rfl, RES.out⟩, by simp [intOf]⟩
    · have RES : Hid _ := H2
      clear H2 LS M1
      go_wp2_with fail
      go_end0
      exact ⟨rfl, RES.out, K2⟩
#print axioms up_one

set_option linter.unusedSimpArgs false in
set_option maxHeartbeats 4000000 in
set_option maxRecDepth 100000 in
theorem down_one (p : Nat) (w : World) : Calls Try.prog 42 #[.iface 69 (.pointer (some ⟨p, 0, none⟩)), .int .i64 0, .int .i64 1] w fun e w' => e = .returned (.bool false) ∧ w' = w := by
  go_enter Try.func42, Try.ntmps42
  go_wp2_with fail
  go_loopw [7] (fun u wr => u = .int .i64 0 ∧ wr = w) (fun _ _ => 0)
  case atStart => exact ⟨rfl, rfl⟩
  case round =>
    obtain ⟨rfl, rfl⟩ := hrel
    go_wp2_with fail
    go_ret
    exact ⟨rfl, rfl⟩
#print axioms down_one

set_option linter.unusedSimpArgs false in
set_option maxHeartbeats 4000000 in
set_option maxRecDepth 100000 in
theorem heapPush0 {w : World} {base p : Nat} {v : Value} {y : Sn} {ct : Int} (h : IsB w base p v [] ct) (hb : base ≤ w.heap.size) :
    Calls Try.prog 36 #[.iface 69 (.pointer (some ⟨p, 0, none⟩)), .iface 42 (.agg y.A)] w fun e w' => e = .returned (.tuple #[]) ∧ (∃ v', IsB w' base p v' [y] ct) ∧ Ko p base w w' := by
  have P1 := push_any h y (by simp) hb
  have M1 := meth_push 234 (by decide) p w
  clear h
  go_enter Try.func36, Try.ntmps36
  go_wp2_with fail
  refine P1.mono ?_
  rintro e z ⟨rfl, ⟨v2, Hz0⟩, kz⟩
  clear P1 M1
  have Hz : IsB z base p v2 ([y]) ct := Hz0
  obtain ⟨g, cap, rfl⟩ := Hz.own.some (by simp)
  have M2 := meth_len 234 (by decide) p z _ Hz.c0
  have HL := len_any (some ⟨g, 0, none⟩) 1 cap z
  have HZ : Hid _ := Hz
  have GO := Hz.old
  clear Hz Hz0
  go_wp2_with fail
  refine HL.mono ?_
  rintro e z ⟨rfl, rfl⟩
  clear HL M2
  go_wp2_with fail
  refine (up_zero p _).mono ?_
  rintro e z ⟨rfl, rfl⟩
  go_wp2_with fail
  go_end0
  exact ⟨rfl, ⟨_, HZ.out⟩, kz⟩

set_option linter.unusedSimpArgs false in
set_option maxHeartbeats 4000000 in
set_option maxRecDepth 100000 in
theorem heapPush1 {w : World} {base p : Nat} {v : Value} {x y : Sn} {ct : Int} (h : IsB w base p v [x] ct) (hb : base ≤ w.heap.size) (ha : aheadB y x = true) :
    Calls Try.prog 36 #[.iface 69 (.pointer (some ⟨p, 0, none⟩)), .iface 42 (.agg y.A)] w fun e w' => e = .returned (.tuple #[]) ∧ (∃ v', IsB w' base p v' [y, x] ct) ∧ Ko p base w w' := by
  have P1 := push_any h y (by simp) hb
  have M1 := meth_push 234 (by decide) p w
  clear h
  go_enter Try.func36, Try.ntmps36
  go_wp2_with fail
  refine P1.mono ?_
  rintro e z ⟨rfl, ⟨v2, Hz0⟩, kz⟩
  clear P1 M1
  have Hz : IsB z base p v2 ([x, y]) ct := Hz0
  obtain ⟨g, cap, rfl⟩ := Hz.own.some (by simp)
  have M2 := meth_len 234 (by decide) p z _ Hz.c0
  have HL := len_any (some ⟨g, 0, none⟩) 2 cap z
  have HZ : Hid _ := Hz
  have GO := Hz.old
  clear Hz Hz0
  go_wp2_with fail
  refine HL.mono ?_
  rintro e z ⟨rfl, rfl⟩
  clear HL M2
  go_wp2_with fail
  refine (up_one HZ.out ha).mono ?_
  rintro e z2 ⟨rfl, H2, k2⟩
  have RES : Hid _ := H2
  clear H2
  go_wp2_with fail
  go_end0
  exact ⟨rfl, ⟨_, RES.out⟩, kz.trans (Ko.ofKp k2 (by intro i hi; simp at hi; right; omega))⟩
#print axioms heapPush1

set_option linter.unusedSimpArgs false in
set_option maxHeartbeats 4000000 in
set_option maxRecDepth 100000 in
theorem heapPop2 {w : World} {base p g cap : Nat} {x y : Sn} {ct : Int} (h : IsB w base p (.slice (some ⟨g, 0, none⟩) 2 cap) [y, x] ct) :
    Calls Try.prog 33 #[.iface 69 (.pointer (some ⟨p, 0, none⟩))] w fun e w' => e = .returned (.iface 42 (.agg y.A)) ∧ IsB w' base p (.slice (some ⟨g, 0, none⟩) 1 cap) [x] ct ∧ Kp [p, g] w w' := by
  have M1 := meth_len 234 (by decide) p w _ h.c0
  have HL := len_any (some ⟨g, 0, none⟩) 2 cap w
  have M2 := meth_swap 234 (by decide) p w _ h.c0
  have SWP := swap_any h.own 0 1 y x rfl rfl
  have HB : Hid _ := h
  clear h
  go_enter Try.func33, Try.ntmps33
  go_wp2_with fail
  refine HL.mono ?_
  rintro e w ⟨rfl, rfl⟩
  clear HL M1
  go_wp2_with fail
  refine SWP.mono ?_
  rintro e z ⟨rfl, Lz, kz⟩
  clear SWP M2
  have Hz : IsB z base p (.slice (some ⟨g, 0, none⟩) 2 cap) ([x] ++ [y]) ct := HB.out.own' kz Lz
  have PP := pop_any (l := [x]) Hz (by simp)
  have M3 := meth_pop 234 (by decide) p z
  clear Lz Hz HB
  go_wp2_with fail
  refine (down_one p _).mono ?_
  rintro e z ⟨rfl, rfl⟩
  go_wp2_with fail
  refine PP.mono ?_
  rintro e z2 ⟨rfl, Hz2, k2⟩
  clear PP M3
  have RES : Hid _ := Hz2
  clear Hz2
  go_wp2_with fail
  go_ret
  exact ⟨rfl, RES.out, (kz.more (by simp)).trans (k2.more (by simp))⟩
#print axioms heapPop2
end Go.Proofs.Ytndlpjfofjikeaa
