/-
  The document's dictionary: bytes of their own, an entry's value at first, which entry stands ahead, whether one may be.
-/
import Derived.Test.YtajllkkbgpijiaaGreatDoorDg
import Derived.Test.YtajllkkbgpijiaaGreatDoorIf
import Derived.Test.YtajllkkbgpijiaaGreatDoorRef4
namespace Go.Proofs.YtajllkkbgpijiaaGreatDoor
open Go.RowKit

set_option linter.unusedSimpArgs false in
set_option maxHeartbeats 4000000 in
set_option maxRecDepth 100000 in
theorem own_any (a : Option Addr) (len cap : Nat) (zs : List Int) (w : World) (hr : Row w a len zs) (hl : len ≤ 16777216) :
    Calls Tryz.prog 62 #[.slice a len cap] w fun e w' => ∃ a' c', e = .returned (.slice a' len c') ∧ SlOk w' a' len c' zs ∧ Below w.heap.size w w' := by
  have HR : Hid (∀ W, Below w.heap.size w W → Row W a len zs) := fun W hb => hr.next hb
  clear hr
  go_enter Tryz.func62, Tryz.ntmps62
  go_wp2_with (at_builtin; refine wpList_append_nil rfl _ _ rfl rfl a len cap zs rfl (HR.out _ (by repeat (first | exact Below.refl _ _ | apply Below.drew | apply Below.al))) (by omega) ?_)
  intro a' c' w1 h1 h2 h3 h4 h5
  have S1 : Hid (SlOk w1 a' len c' zs) := ⟨h3, h1, h2⟩
  have B1 : Hid (Below w.heap.size w w1) := h5
  clear h1 h2 h3 h4 h5
  go_wp2_with fail
  go_ret
  exact ⟨a', c', rfl, S1.out, B1.out⟩
set_option linter.unusedSimpArgs false in
set_option maxHeartbeats 4000000 in
set_option maxRecDepth 100000 in
theorem refZero_any (t : Int) (w : World) : Calls Tryz.prog 63 #[.int .u8 t] w fun e w' => ∃ a n c, e = .returned (.slice a n c) ∧ SlOk w' a n c (Ty.zeros (Ty.Pl.sizeN t).toNat) ∧ Below w.heap.size w w' := by
  have hb := Ty.Pl.size_bd t
  obtain ⟨n, hn⟩ : ∃ n : Nat, Hid (Ty.Pl.sizeN t = (n : Int)) := ⟨(Ty.Pl.sizeN t).toNat, by show _ = _; omega⟩
  have hmk := fun W => Ty.make_run n (by have := hn.out; omega) W
  have HZ : Hid ((Ty.Pl.sizeN t).toNat = n) := by show _ = _; rw [hn.out]; simp
  have hn8 : n ≤ 8 := by have := hn.out; omega
  rw [HZ.out]
  clear hb
  go_enter Tryz.func63, Tryz.ntmps63
  go_wp2_with fail
  refine (Ty.refSize_any _ _).mono ?_
  rw [hn.out]
  rintro e x ⟨rfl, rfl⟩
  go_wp2_with fail
  go_ret
  exact ⟨_, n, n, rfl, ⟨Row.un (Ty.row_made _ n _), Nat.le_refl _, by unfold maxLen; omega⟩, (by repeat (first | exact Below.refl _ _ | apply Below.drew | apply Below.al))⟩
set_option linter.unusedSimpArgs false in
set_option maxHeartbeats 4000000 in
set_option maxRecDepth 100000 in
theorem first_any (i s : Int) (nm : ByteArray) (t rt : Int) (d : Option Addr) (ld cd : Nat) (l : Option Addr) (ll cl : Nat) (h : Option Addr) (lh ch : Nat) (tg gr : Int) (zd : List Int) (w : World) (rd : SlOk w d ld cd zd) (hld : ld ≤ 16777216) : Calls Tryz.prog 44 #[.agg (enC i s nm t rt d ld cd l ll cl h lh ch tg gr)] w fun e w' => ∃ a n c, e = .returned (.slice a n c) ∧ SlOk w' a n c (firstL t zd) ∧ Below w.heap.size w w' := by
  have hs := rd.row.size
  have RD : Hid (SlOk w d ld cd zd) := rd
  clear rd
  rcases Nat.eq_zero_or_pos ld with h0 | hp
  · subst h0
    have HF : Hid (firstL t zd = Ty.zeros (Ty.Pl.sizeN t).toNat) := if_neg (by omega)
    clear hs
    rw [HF.out]
    go_enter Tryz.func44, Tryz.ntmps44
    go_wp2_with fail
    refine (refZero_any t _).mono ?_
    rintro e w1 ⟨a, n, c, rfl, hq, hb⟩
    have HQ : Hid (SlOk w1 a n c (Ty.zeros (Ty.Pl.sizeN t).toNat)) := hq
    have HB : Hid (Below w.heap.size w w1) := Below.andThen (by repeat (first | exact Below.refl _ _ | apply Below.drew | apply Below.al)) hb
    clear hq hb
    go_wp2_with fail
    go_ret
    exact ⟨a, n, c, rfl, HQ.out, HB.out⟩
  · have HF : Hid (firstL t zd = zd) := if_pos (by omega)
    have hp' : 0 < (ld : Int) := by omega
    have HO : Hid (∀ W, Below w.heap.size w W → Calls Tryz.prog 62 #[.slice d ld cd] W fun e w' => ∃ a' c', e = .returned (.slice a' ld c') ∧ SlOk w' a' ld c' zd ∧ Below W.heap.size W w') := fun W hW => own_any d ld cd zd W (RD.out.row.next hW) hld
    clear hs
    rw [HF.out]
    go_enter Tryz.func44, Tryz.ntmps44
    go_wp2_with fail
    refine (HO.out _ (by repeat (first | exact Below.refl _ _ | apply Below.drew | apply Below.al))).mono ?_
    rintro e w1 ⟨a, c, rfl, hq, hb⟩
    have HQ : Hid (SlOk w1 a ld c zd) := hq
    have HB : Hid (Below w.heap.size w w1) := Below.andThen (by repeat (first | exact Below.refl _ _ | apply Below.drew | apply Below.al)) hb
    clear hq hb
    go_wp2_with fail
    go_ret
    exact ⟨a, ld, c, rfl, HQ.out, HB.out⟩
/-- Does a place stand ahead of another? -/
def befB (i s j r : Int) : Bool := decide (i < j) || ((i == j) && decide (s < r))
set_option linter.unusedSimpArgs false in
set_option maxHeartbeats 4000000 in
set_option maxRecDepth 100000 in
theorem before_any (i s : Int) (nm : ByteArray) (t rt : Int) (d : Option Addr) (ld cd : Nat) (l : Option Addr) (ll cl : Nat) (h : Option Addr) (lh ch : Nat) (tg gr : Int) (i' s' : Int) (nm' : ByteArray) (t' rt' : Int) (d' : Option Addr) (ld' cd' : Nat) (l' : Option Addr) (ll' cl' : Nat) (h' : Option Addr) (lh' ch' : Nat) (tg' gr' : Int) (w : World) : Calls Tryz.prog 43 #[.agg (enC i s nm t rt d ld cd l ll cl h lh ch tg gr), .agg (enC i' s' nm' t' rt' d' ld' cd' l' ll' cl' h' lh' ch' tg' gr')] w fun e w' => e = .returned (.bool (befB i s i' s')) ∧ Below w.heap.size w w' := by
  by_cases h1 : i < i'
  · have HB : Hid (befB i s i' s' = true) := by show _ = _; simp [befB, h1]
    rw [HB.out]
    go_enter Tryz.func43, Tryz.ntmps43
    go_wp2_with fail
    go_ret
    exact ⟨rfl, (by repeat (first | exact Below.refl _ _ | apply Below.drew | apply Below.al))⟩
  · by_cases h2 : i = i'
    · subst h2
      by_cases h3 : s < s'
      · have HB : Hid (befB i s i s' = true) := by show _ = _; simp [befB, h3]
        rw [HB.out]
        go_enter Tryz.func43, Tryz.ntmps43
        go_wp2_with fail
        go_ret
        exact ⟨rfl, (by repeat (first | exact Below.refl _ _ | apply Below.drew | apply Below.al))⟩
      · have HB : Hid (befB i s i s' = false) := by show _ = _; simp [befB]; omega
        rw [HB.out]
        have h3d : decide (s < s') = false := decide_eq_false h3
        go_enter Tryz.func43, Tryz.ntmps43
        go_wp2_with fail
        go_ret
        exact ⟨by simp [h3], (by repeat (first | exact Below.refl _ _ | apply Below.drew | apply Below.al))⟩
    · have HB : Hid (befB i s i' s' = false) := by show _ = _; simp [befB, h2]; omega
      have h2b : (i == i') = false := by simpa using h2
      rw [HB.out]
      go_enter Tryz.func43, Tryz.ntmps43
      go_wp2_with fail
      go_ret
      exact ⟨rfl, (by repeat (first | exact Below.refl _ _ | apply Below.drew | apply Below.al))⟩
#print axioms first_any
#print axioms before_any
end Go.Proofs.YtajllkkbgpijiaaGreatDoor
