/-
  The walks of strings.Cut at one byte, and of readMoment.
-/
import Derived.Test.YtkfmmpolcjbnbaaDoorRd5
import Derived.Test.YtkfmmpolcjbnbaaDoorLent
import Derived.BigQuiet
import Derived.Deep.QuietTactic
namespace Go.Proofs.YtkfmmpolcjbnbaaDoor
open Pl Go.RowKit

/-- A text at the first such byte. -/
def cutU (c : UInt8) : List UInt8 → Option (List UInt8 × List UInt8)
  | [] => none
  | z :: zs => if z = c then some ([], zs) else (cutU c zs).map fun p => (z :: p.1, p.2)

theorem cutU_is (c : UInt8) : ∀ (l : List UInt8), Lib.indexByte l c = match cutU c l with | some p => (p.1.length : Int) | none => -1
  | [] => rfl
  | z :: l => by
    have ih := cutU_is c l
    simp only [Lib.indexByte, cutU]
    by_cases h : z = c
    · subst h; simp
    · rw [if_neg h, ih]
      simp only [h, beq_iff_eq, if_false]
      cases cutU c l with
      | none => simp
      | some p => simp
theorem cutU_eq (c : UInt8) : ∀ (l : List UInt8) (p : List UInt8 × List UInt8), cutU c l = some p → l = p.1 ++ c :: p.2
  | [], _, h => by simp [cutU] at h
  | z :: l, p, h => by
    simp only [cutU] at h
    by_cases e : z = c
    · rw [if_pos e] at h; cases h; subst e; rfl
    · rw [if_neg e] at h
      cases hq : cutU c l with
      | none => rw [hq] at h; simp at h
      | some q =>
        rw [hq] at h
        simp at h
        subst h
        have := cutU_eq c l q hq
        simp [← this]
theorem cutU_here (c : UInt8) : ∀ (a b : List UInt8), c ∉ a → cutU c (a ++ c :: b) = some (a, b)
  | [], b, _ => by simp [cutU]
  | z :: a, b, h => by
    have h1 : z ≠ c := fun e => h (by simp [e])
    have h2 : c ∉ a := fun e => h (by simp [e])
    simp [cutU, h1, cutU_here c a b h2]

/-- What Cut tells. -/
def cutT (c : UInt8) (l : List UInt8) : Value :=
  match cutU c l with
  | some p => .tuple #[.string (str p.1), .string (str p.2), .bool true]
  | none => .tuple #[.string (str l), .string ⟨#[]⟩, .bool false]

theorem below_drewN {a w : World} (h : Below a.heap.size a w) : ∀ n, Below a.heap.size a (w.drewN n)
  | 0 => h
  | n + 1 => Below.drew (below_drewN h n)

set_option maxHeartbeats 2000000 in
set_option maxRecDepth 100000 in
theorem cutC_any (c : UInt8) (l : List UInt8) (w : World) (hl : l.length ≤ 1000000) :
    Calls Tryd.prog 63 #[.string (str l), .string ⟨#[c]⟩] w fun e w' => e = .returned (cutT c l) ∧ Below w.heap.size w w' := by
  have hidx := fun w => Tryd.stringslite_Index_one (str l) c w
  rw [show (str l).data.toList = l from rfl, cutU_is c l] at hidx
  have hs1 : (⟨#[c]⟩ : ByteArray).size = 1 := rfl
  have hsz : (str l).size = l.length := by unfold str; simp [ByteArray.size]
  have inner : Calls Tryd.prog 81 #[.string (str l), .string ⟨#[c]⟩] w fun e w' => e = .returned (cutT c l) ∧ Below w.heap.size w w' := by
    unfold cutT
    cases hq : cutU c l with
    | none =>
      rw [hq] at hidx
      generalize str l = s at *
      generalize (⟨#[c]⟩ : ByteArray) = t at *
      go_enter Tryd.func81, Tryd.ntmps81
      go_wp2_with fail
      refine (hidx _).mono ?_
      rintro e w ⟨rfl, rfl⟩
      go_wp2_with fail
      go_ret3
      exact ⟨rfl, Below.refl _ _⟩
    | some p =>
      rw [hq] at hidx
      have he := cutU_eq c l p hq
      have hlen : l.length = p.1.length + 1 + p.2.length := by rw [he]; simp; omega
      have hp1 : ((p.1.length : Nat) : Int) ≤ ((str l).size : Int) := by omega
      have hp2 : ((p.1.length : Nat) : Int) + 1 ≤ ((str l).size : Int) := by omega
      have hp3 : ((p.1.length : Nat) : Int) ≤ 1000000 := by omega
      have sl1 : ∀ w, (Instr.slice 9 (.string (str l)) none (some (.int .i64 ((p.1.length : Nat) : Int))) none).run Tryd.prog w = .ok (.string (str p.1)) w := fun w => by
        rw [run_slice_string_h (P := Tryd.prog) w 9 (str l) Tryd.underlying9 .i64 _ (by omega) hp1]
        congr 2
        apply ByteArray.ext
        rw [he]
        simp [str, ByteArray.data_extract]
      have sl2 : ∀ w, (Instr.slice 9 (.string (str l)) (some (.int .i64 (((p.1.length : Nat) : Int) + 1))) none none).run Tryd.prog w = .ok (.string (str p.2)) w := fun w => by
        rw [run_slice_string_l (P := Tryd.prog) w 9 (str l) Tryd.underlying9 .i64 _ (by omega) hp2]
        congr 2
        apply ByteArray.ext
        rw [show (((p.1.length : Nat) : Int) + 1).toNat = p.1.length + 1 from by omega, hsz]
        have : l.drop (p.1.length + 1) = p.2 := by
          rw [he, ← List.drop_drop, List.drop_left]
          rfl
        simp [str, ByteArray.data_extract, this]
        rw [List.take_of_length_le (by omega)]
      clear he hlen hq hp1 hp2 hsz
      obtain ⟨p1, p2⟩ := p
      dsimp only at hp3 hidx sl1 sl2 ⊢
      generalize str l = s at *
      generalize (⟨#[c]⟩ : ByteArray) = t at *
      generalize str p1 = s1 at *
      generalize str p2 = s2 at *
      generalize p1.length = k at *
      go_enter Tryd.func81, Tryd.ntmps81
      go_wp2_with fail
      refine (hidx _).mono ?_
      rintro e w ⟨rfl, rfl⟩
      go_wp2_with fail
      go_quiet (fail)
      go_wp2_with fail
      go_ret3
      exact ⟨rfl, below_drewN (Below.refl _ _) _⟩
  clear hidx hs1 hsz
  unfold cutT at inner ⊢
  generalize cutU c l = o at inner ⊢
  cases o with
  | none =>
    dsimp only at inner ⊢
    go_enter Tryd.func63, Tryd.ntmps63
    go_wp2_with fail
    refine inner.mono ?_
    rintro e w1 ⟨rfl, hb⟩
    go_wp2_with fail
    go_ret3
    exact ⟨rfl, hb⟩
  | some p =>
    dsimp only at inner ⊢
    go_enter Tryd.func63, Tryd.ntmps63
    go_wp2_with fail
    refine inner.mono ?_
    rintro e w1 ⟨rfl, hb⟩
    go_wp2_with fail
    go_ret3
    exact ⟨rfl, hb⟩
#print axioms cutC_any
end Go.Proofs.YtkfmmpolcjbnbaaDoor
