/-
  The walk of Erase.
-/
import Derived.Test.YtgpbmccjcjoijaaFj
namespace Go.Proofs.Ytgpbmccjcjoijaa
open Go.RowKit

set_option linter.unusedSimpArgs false in
set_option maxHeartbeats 4000000 in
set_option maxRecDepth 100000 in
theorem erase_bad {w : World} {p B n cap : Nat} {s : FS} (h : IsS w p B n cap s) (k : Int) (hb : refE s.of n k 0 ≠ 0) :
    Calls Try.prog 74 #[.pointer (some ⟨p, 0, none⟩), .int .i64 k] w fun e w' => e = .returned (.int .i64 (refE s.of n k 0)) ∧ Below w.heap.size w w' := by
  have hr := fun x hx => refuses_any (h.next (w' := x) hx) k 0
  have gb : (refE s.of n k 0 != 0) = true := by simp [hb]
  generalize refE s.of n k 0 = E at *
  clear h hb
  go_enter Try.func74, Try.ntmps74
  go_wp2_with fail
  refine (hr _ (Below.al (Below.al (Below.refl _ _) _) _)).mono ?_
  rintro e x ⟨rfl, hx⟩
  have hbx : Below w.heap.size w x := by rw [hx]; exact Below.al (Below.al (Below.refl _ _) _) _
  clear hx
  clear hr
  go_wp2_with fail
  go_ret
  exact ⟨rfl, hbx⟩

set_option linter.unusedSimpArgs false in
set_option maxHeartbeats 4000000 in
set_option maxRecDepth 100000 in
theorem erase_nil (w : World) (k : Int) :
    Calls Try.prog 74 #[.pointer none, .int .i64 k] w fun e w' => e = .returned (.int .i64 1) ∧ Below w.heap.size w w' := by
  go_enter Try.func74, Try.ntmps74
  go_wp2_with fail
  refine (refuses_nil _ k 0).mono ?_
  rintro e x ⟨rfl, hx⟩
  have hbx : Below w.heap.size w x := by rw [hx]; exact Below.al (Below.al (Below.refl _ _) _) _
  clear hx
  go_wp2_with fail
  go_ret
  exact ⟨rfl, hbx⟩

set_option linter.unusedSimpArgs false in
set_option maxHeartbeats 4000000 in
set_option maxRecDepth 100000 in
theorem erase_ok {w : World} {p B n cap : Nat} {s : FS} (h : IsS w p B n cap s) (hs : s.Ok) (k : Nat) (hk : k < n) (ho : s.of = false) :
    Calls Try.prog 74 #[.pointer (some ⟨p, 0, none⟩), .int .i64 k] w fun e w' => e = .returned (.int .i64 (s.erase n k).1) ∧ IsS w' p B n cap (s.erase n k).2 ∧ Kp [p, B] w w' := by
  have r0 : refE s.of n k 0 = 0 := refE_ok ho n k 0 (by omega) (by omega) (by omega) (by omega)
  unfold FS.erase
  rw [if_neg (by rw [r0]; decide)]
  simp only [Int.toNat_natCast]
  have hlt := h.lt
  have hbx : Below w.heap.size w ((w.alloc (.cells #[.pointer (some ⟨p, 0, none⟩)] 25)).alloc (.cells #[.int .i64 (k : Int)] 3)) := Below.al (Below.al (Below.refl _ _) _) _
  have hr := refuses_any (h.next hbx) k 0
  rw [r0] at hr
  have h4 := h.next hbx
  have F0 : ((w.alloc (.cells #[.pointer (some ⟨p, 0, none⟩)] 25)).alloc (.cells #[.int .i64 (k : Int)] 3)).cell? ⟨w.heap.size, 0, none⟩ = some (.pointer (some ⟨p, 0, none⟩)) := by simp [go_sem]
  have F1 : ((w.alloc (.cells #[.pointer (some ⟨p, 0, none⟩)] 25)).alloc (.cells #[.int .i64 (k : Int)] 3)).cell? ⟨w.heap.size + 1, 0, none⟩ = some (.int .i64 (k : Int)) := by simp [go_sem]
  have ST := stepE_any h4 hs k hk w.heap.size (w.heap.size + 1) (by omega) (by omega) (by omega) (by omega) F0 F1
  generalize s.step (put s.cs (k * 1024) ff) = R at *
  have HB : Hid (Below w.heap.size w ((w.alloc (.cells #[.pointer (some ⟨p, 0, none⟩)] 25)).alloc (.cells #[.int .i64 (k : Int)] 3))) := hbx
  clear h h4 hs r0 hlt hbx F1
  go_enter Try.func74, Try.ntmps74
  go_wp2_with fail
  refine hr.mono ?_
  rintro e x ⟨rfl, rfl⟩
  clear hr
  go_wp2_with fail
  refine ST.mono ?_
  rintro e z2 ⟨rfl, h2, k2⟩
  clear ST
  go_wp2_with fail
  go_ret
  exact ⟨rfl, h2, (Kp.of HB.out).trans k2⟩

theorem erase_any {w : World} {p B n cap : Nat} {s : FS} (h : IsS w p B n cap s) (hs : s.Ok) (k : Int) :
    Calls Try.prog 74 #[.pointer (some ⟨p, 0, none⟩), .int .i64 k] w fun e w' => e = .returned (.int .i64 (s.erase n k).1) ∧ IsS w' p B n cap (s.erase n k).2 ∧ Kp [p, B] w w' := by
  by_cases hb : refE s.of n k 0 = 0
  · obtain ⟨ho, k, d, rfl, _, hk, hd⟩ := refE_zero hb
    exact erase_ok h hs k hk ho
  · refine (erase_bad h k hb).mono fun e w' ⟨he, hb'⟩ => ?_
    unfold FS.erase
    rw [if_pos hb]
    exact ⟨he, h.next hb', Kp.of hb'⟩
#print axioms erase_any
end Go.Proofs.Ytgpbmccjcjoijaa
