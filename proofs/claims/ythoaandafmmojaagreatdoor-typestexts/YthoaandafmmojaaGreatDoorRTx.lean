/-
  The walk of the document's Text.
-/
import Derived.Test.YthoaandafmmojaaGreatDoorRT1
import Derived.Test.YthoaandafmmojaaGreatDoorRT2
import Derived.Test.YthoaandafmmojaaGreatDoorRT3
import Derived.Test.YthoaandafmmojaaGreatDoorRT4
import Derived.Test.YthoaandafmmojaaGreatDoorRT5
import Derived.Test.YthoaandafmmojaaGreatDoorRT6
import Derived.Test.YthoaandafmmojaaGreatDoorRT7
namespace Go.Proofs.YthoaandafmmojaaGreatDoor
open Pl Go.RowKit

set_option maxHeartbeats 16000000 in
set_option maxRecDepth 100000 in
theorem refText_any (t : Int) (a : Option Addr) (len cap : Nat) (zs : List Int) (w : World) (hr : Row w a len zs) (hlc : len ≤ cap) (hcm : cap ≤ maxLen) :
    Calls Tryz.prog 7 #[.int .u8 t, .slice a len cap] w fun e w' => e = .returned (.tuple #[.string (str (txS t zs)), .int .i64 (txE t zs)]) ∧ Below w.heap.size w w' := by
  have hle := let_is t
  by_cases k0 : kindN t = 0
  · have HR : Hid ((letN t != 0) = false) := by show (letN t != 0) = false; rw [let_right]; simp [k0]
    have H1 : Hid (str (txS t zs) = ⟨#[]⟩) := by show _ = _; unfold txS; rw [if_pos k0]; rfl
    have H2 : Hid (txE t zs = 10) := by show _ = _; unfold txE; rw [if_pos k0]
    clear k0 hle
    go_enter Tryz.func7, Tryz.ntmps7
    go_wp2_with fail
    refine (refRight_any _ _).mono ?_
    rw [HR.out]
    rintro e w ⟨rfl, rfl⟩
    go_wp2_with fail
    go_ret2
    exact ⟨ret_si H1.out.symm H2.out.symm, Below.refl _ _⟩
  have HR : Hid ((letN t != 0) = true) := by show (letN t != 0) = true; rw [let_right]; simp [k0]
  by_cases c0 : cbN t zs = 0
  rotate_left
  · have bc : (cbN t zs != 0) = true := by simp [c0]
    have H1 : Hid (str (txS t zs) = ⟨#[]⟩) := by show _ = _; unfold txS; rw [if_neg k0, if_pos c0]; rfl
    have H2 : Hid (txE t zs = 11) := by show _ = _; unfold txE; rw [if_neg k0, if_pos c0]
    clear k0 c0 hle
    go_enter Tryz.func7, Tryz.ntmps7
    go_wp2_with fail
    refine (refRight_any _ _).mono ?_
    rw [HR.out]
    rintro e w ⟨rfl, rfl⟩
    go_wp2_with fail
    refine (plain_any _ _ _ _ zs _ hr hlc hcm).mono ?_
    rintro e w ⟨rfl, rfl⟩
    go_wp2_with fail
    go_ret2
    exact ⟨ret_si H1.out.symm H2.out.symm, Below.refl _ _⟩
  have hkb := kind_bd t
  have K : kindN t = 1 ∨ kindN t = 2 ∨ kindN t = 3 ∨ kindN t = 4 ∨ kindN t = 5 ∨ kindN t = 6 ∨ kindN t = 7 := by omega
  rcases K with k | k | k | k | k | k | k
  · exact refText_k1 t a len cap zs w hr hlc hcm c0 k
  · exact refText_k2 t a len cap zs w hr hlc hcm c0 k
  · exact refText_k3 t a len cap zs w hr hlc hcm c0 k
  · exact refText_k4 t a len cap zs w hr hlc hcm c0 k
  · exact refText_k5 t a len cap zs w hr hlc hcm c0 k
  · exact refText_k6 t a len cap zs w hr hlc hcm c0 k
  · exact refText_k7 t a len cap zs w hr hlc hcm c0 k
#print axioms refText_any
end Go.Proofs.YthoaandafmmojaaGreatDoor
