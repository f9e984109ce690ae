/-
  The walk of the document's Value.
-/
import Derived.Test.YtkfmmpolcjbnbaaGreatDoorVn11
namespace Go.Proofs.YtkfmmpolcjbnbaaGreatDoor
open Pl Go.RowKit

set_option linter.unusedSimpArgs false in
set_option maxHeartbeats 4000000 in
set_option maxRecDepth 100000 in
theorem refValue_none (t : Int) (s : ByteArray) (w : World) (hk : kindN t = 0) :
    Calls Tryz.prog 6 #[.int .u8 t, .string s] w fun e w' => e = .returned (.tuple #[.slice none 0 0, .int .i64 10]) ∧ w' = w := by
  have RT := fun w => refRight_any t w
  rw [let_right t, hk] at RT
  go_enter Tryz.func6, Tryz.ntmps6
  go_wp2_with fail
  refine (RT _).mono ?_
  rintro e w ⟨rfl, rfl⟩
  clear RT
  go_wp2_with fail
  go_ret2
  exact ⟨rfl, rfl⟩

set_option linter.unusedSimpArgs false in
set_option maxHeartbeats 4000000 in
set_option maxRecDepth 100000 in
theorem refValue_any (hR : RealIs) (hU : UnqIs) (t : Int) (l : List UInt8) (w : World) (hl : l.length ≤ 1000000) (hk : kindN t ≠ 0) :
    Calls Tryz.prog 6 #[.int .u8 t, .string (str l)] w (ValueTo w (valN t l)) := by
  have RT := fun w => refRight_any t w
  rw [let_right t, show (kindN t != 0) = true from by simp [hk]] at RT
  have VD := fun w => valueD_any hR hU t l w hl hk
  rw [val_cut t l hk]
  generalize str l = s at *
  generalize valW t l = R at *
  cases R with
  | none =>
    show Calls _ _ _ _ (ValueTo w none)
    go_enter Tryz.func6, Tryz.ntmps6
    go_wp2_with fail
    refine (RT _).mono ?_
    rintro e w ⟨rfl, rfl⟩
    clear RT
    go_wp2_with fail
    refine (VD _).mono ?_
    rintro e w' ⟨⟨v, rfl⟩, hb⟩
    clear VD
    go_wp2_with fail
    go_ret2
    exact ⟨rfl, hb⟩
  | some zs =>
    have HC : cutTo (some zs) = if zs.length ≤ 4096 then some zs else none := rfl
    rw [HC]
    by_cases hz : zs.length ≤ 4096
    · rw [if_pos hz]
      go_enter Tryz.func6, Tryz.ntmps6
      go_wp2_with fail
      refine (RT _).mono ?_
      rintro e w ⟨rfl, rfl⟩
      clear RT
      go_wp2_with fail
      refine (VD _).mono ?_
      rintro e w' ⟨⟨a, len, cap, rfl, ht⟩, hb⟩
      clear VD
      have g : ¬ (4096 : Int) < (len : Int) := by have := ht.row.size; omega
      go_wp2_with fail
      go_ret2
      exact ⟨⟨_, _, _, rfl, ht⟩, hb⟩
    · rw [if_neg hz]
      go_enter Tryz.func6, Tryz.ntmps6
      go_wp2_with fail
      refine (RT _).mono ?_
      rintro e w ⟨rfl, rfl⟩
      clear RT
      go_wp2_with fail
      refine (VD _).mono ?_
      rintro e w' ⟨⟨a, len, cap, rfl, ht⟩, hb⟩
      clear VD
      have g : (4096 : Int) < (len : Int) := by have := ht.row.size; omega
      clear ht
      go_wp2_with fail
      go_ret2
      exact ⟨rfl, hb⟩
#print axioms refValue_any
end Go.Proofs.YtkfmmpolcjbnbaaGreatDoor
