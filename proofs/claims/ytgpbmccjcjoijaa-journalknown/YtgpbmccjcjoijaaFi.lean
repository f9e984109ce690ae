/-
  A flash's state, and the walk of a step.
-/
import Derived.Test.YtgpbmccjcjoijaaFh
namespace Go.Proofs.Ytgpbmccjcjoijaa
open Go.RowKit

/-- A flash's state. -/
structure FS where
  cs : List Int
  st : Int
  ar : Bool
  lf : Int
  of : Bool
/-- A flash in a state. -/
abbrev IsS (w : World) (p B n cap : Nat) (s : FS) : Prop := IsF w p B n cap s.cs s.st s.ar s.lf s.of
/-- The numbers of a state are small. -/
structure FS.Ok (s : FS) : Prop where
  st0 : 0 ≤ s.st
  st1 : s.st < 4611686018427387904
  lf0 : 0 ≤ s.lf
  lf1 : s.lf < 9223372036854775808
/-- A step: what it answers, what is behind it. -/
def FS.step (s : FS) (cs' : List Int) : Int × FS := if s.ar = true ∧ s.lf = 0 then (7, { s with of := true }) else (0, { s with cs := cs', st := s.st + 1, lf := if s.ar then s.lf - 1 else s.lf })
theorem FS.step_cut {s : FS} (h : s.ar = true) (h0 : s.lf = 0) (cs' : List Int) : s.step cs' = (7, { s with of := true }) := by unfold FS.step; rw [if_pos ⟨h, h0⟩]
theorem FS.step_armed {s : FS} (h : s.ar = true) (h0 : s.lf ≠ 0) (cs' : List Int) : s.step cs' = (0, { s with cs := cs', st := s.st + 1, lf := s.lf - 1 }) := by unfold FS.step; rw [if_neg (fun e => h0 e.2), if_pos h]
theorem FS.step_free {s : FS} (h : s.ar = false) (cs' : List Int) : s.step cs' = (0, { s with cs := cs', st := s.st + 1 }) := by unfold FS.step; rw [if_neg (fun e => by rw [h] at e; cases e.1), if_neg (by rw [h]; decide)]
theorem wrap64 (z : Int) (h0 : 0 ≤ z) (h1 : z < 9223372036854775808) : IntKind.i64.wrap z = z := by
  simp [IntKind.wrap, IntKind.bits, IntKind.signed]; omega

set_option linter.unusedSimpArgs false in
set_option maxHeartbeats 4000000 in
set_option maxRecDepth 100000 in
theorem stepW_any {w : World} {p B n cap : Nat} {s : FS} (h : IsS w p B n cap s) (hs : s.Ok) (k d : Nat) (hk : k < n) (hd : d < 256) (b0 b1 b2 b3 : Int) (hw : Oct [b0, b1, b2, b3]) (bb fb sb db : Nat) (nb : bb ≠ B) (nf : fb ≠ B) (ns : sb ≠ B) (nd : db ≠ B) (nb' : bb ≠ p) (nf' : fb ≠ p) (ns' : sb ≠ p) (nd' : db ≠ p)
    (hbb : w.heap[bb]? = some (.cells (w4 b0 b1 b2 b3) 53 (0, 0))) (hfb : w.cell? ⟨fb, 0, none⟩ = some (.pointer (some ⟨p, 0, none⟩))) (hsb : w.cell? ⟨sb, 0, none⟩ = some (.int .i64 k)) (hdb : w.cell? ⟨db, 0, none⟩ = some (.int .i64 d)) :
    Calls Try.prog 49 #[.pointer (some ⟨p, 0, none⟩), .func (.func 50) #[] #[.pointer (some ⟨bb, 0, none⟩), .pointer (some ⟨fb, 0, none⟩), .pointer (some ⟨sb, 0, none⟩), .pointer (some ⟨db, 0, none⟩)]] w fun e w' => e = .returned (.int .i64 (s.step (put s.cs (k * 1024 + d * 4) [b0, b1, b2, b3])).1) ∧ IsS w' p B n cap (s.step (put s.cs (k * 1024 + d * 4) [b0, b1, b2, b3])).2 ∧ Kp [p, B] w w' := by
  have DO : Hid (∀ (w1 : World) (lf2 : Int), IsF w1 p B n cap s.cs s.st s.ar lf2 s.of → Kp [p] w w1 → Calls Try.prog 50 #[.pointer (some ⟨bb, 0, none⟩), .pointer (some ⟨fb, 0, none⟩), .pointer (some ⟨sb, 0, none⟩), .pointer (some ⟨db, 0, none⟩)] w1 fun e w' => e = .returned (.tuple #[]) ∧ IsF w' p B n cap (put s.cs (k * 1024 + d * 4) [b0, b1, b2, b3]) s.st s.ar lf2 s.of ∧ Kp [B] w1 w') := fun w1 lf2 h1 hk2 => write1_any h1 k d hk hd b0 b1 b2 b3 hw bb fb sb db nb nf ns nd (by rw [hk2.block bb (lt_of_heap hbb) (by simpa using nb')]; exact hbb) (hk2.cell hfb (by simpa using nf')) (hk2.cell hsb (by simpa using ns')) (hk2.cell hdb (by simpa using nd'))
  obtain ⟨h0, h1, h2, h3⟩ := hs
  have k2 := h.c2
  have k3 := h.c3
  have f3 := h.fz 3
  have f4 := h.fz 4
  have k4 := h.c4
  obtain ⟨C, st, ar, lf, of⟩ := s
  dsimp only at *
  clear hbb hfb hsb hdb hw nb nf ns nd nb' nf' ns' nd'
  cases ar with
  | true =>
    by_cases hz : lf = 0
    · subst hz
      rw [FS.step_cut rfl rfl]
      have H := h.s4 true
      have HH : Hid (IsF _ _ _ _ _ _ _ _ _ _) := H
      clear H DO h
      go_enter Try.func49, Try.ntmps49
      go_wp2_with fail
      go_ret
      exact ⟨rfl, HH.out, (Kp.refl _ _).set _ _ (.inl (by simp))⟩
    · rw [FS.step_armed rfl hz]
      have W1 := wrap64 (lf - 1) (by omega) (by omega)
      have W2 := wrap64 (st + 1) (by omega) (by omega)
      have g1 : (lf == 0) = false := by simp [hz]
      have H := h.s3 (lf - 1)
      have HK : Kp [p] w (w.setCell ⟨p, 3, none⟩ (.int .i64 (lf - 1))) := (Kp.refl _ _).set _ _ (.inl (by simp))
      have CC := DO.out _ _ H HK
      have HH : Hid (Kp [p] w (w.setCell ⟨p, 3, none⟩ (.int .i64 (lf - 1)))) := HK
      clear DO h h0 h1 h2 h3 HK H
      go_enter Try.func49, Try.ntmps49
      go_wp2_with fail
      refine CC.mono ?_
      rintro e w2 ⟨rfl, H2, K2⟩
      clear CC k2 k3 k4 f3 f4
      have k1 := H2.c1
      have f1 := H2.fz 1
      have H3 : Hid (IsF w2 p B n cap _ _ _ _ _) := H2
      clear H2
      go_wp2_with fail
      go_ret
      exact ⟨rfl, H3.out.s1 _, ((HH.out.more (by simp)).trans (K2.more (by simp))).set _ _ (.inl (by simp))⟩
  | false =>
    rw [FS.step_free rfl]
    have W2 := wrap64 (st + 1) (by omega) (by omega)
    have CC := DO.out _ _ h (Kp.refl _ _)
    clear DO h h0 h1 h2 h3
    go_enter Try.func49, Try.ntmps49
    go_wp2_with fail
    refine CC.mono ?_
    rintro e w2 ⟨rfl, H2, K2⟩
    clear CC k2 k3 k4 f3 f4
    have k1 := H2.c1
    have f1 := H2.fz 1
    have H3 : Hid (IsF w2 p B n cap _ _ _ _ _) := H2
    clear H2
    go_wp2_with fail
    go_ret
    exact ⟨rfl, H3.out.s1 _, (K2.more (by simp)).set _ _ (.inl (by simp))⟩

set_option linter.unusedSimpArgs false in
set_option maxHeartbeats 4000000 in
set_option maxRecDepth 100000 in
theorem stepE_any {w : World} {p B n cap : Nat} {s : FS} (h : IsS w p B n cap s) (hs : s.Ok) (k : Nat) (hk : k < n) (fb sb : Nat) (nf : fb ≠ B) (ns : sb ≠ B) (nf' : fb ≠ p) (ns' : sb ≠ p) (hfb : w.cell? ⟨fb, 0, none⟩ = some (.pointer (some ⟨p, 0, none⟩))) (hsb : w.cell? ⟨sb, 0, none⟩ = some (.int .i64 k)) :
    Calls Try.prog 49 #[.pointer (some ⟨p, 0, none⟩), .func (.func 75) #[] #[.pointer (some ⟨fb, 0, none⟩), .pointer (some ⟨sb, 0, none⟩)]] w fun e w' => e = .returned (.int .i64 (s.step (put s.cs (k * 1024) ff)).1) ∧ IsS w' p B n cap (s.step (put s.cs (k * 1024) ff)).2 ∧ Kp [p, B] w w' := by
  have DO : Hid (∀ (w1 : World) (lf2 : Int), IsF w1 p B n cap s.cs s.st s.ar lf2 s.of → Kp [p] w w1 → Calls Try.prog 75 #[.pointer (some ⟨fb, 0, none⟩), .pointer (some ⟨sb, 0, none⟩)] w1 fun e w' => e = .returned (.tuple #[]) ∧ IsF w' p B n cap (put s.cs (k * 1024) ff) s.st s.ar lf2 s.of ∧ Kp [B] w1 w') := fun w1 lf2 h1 hk2 => erase1_any h1 k hk fb sb nf ns (hk2.cell hfb (by simpa using nf')) (hk2.cell hsb (by simpa using ns'))
  obtain ⟨h0, h1, h2, h3⟩ := hs
  have k2 := h.c2
  have k3 := h.c3
  have f3 := h.fz 3
  have f4 := h.fz 4
  have k4 := h.c4
  obtain ⟨C, st, ar, lf, of⟩ := s
  dsimp only at *
  clear hfb hsb nf ns nf' ns'
  cases ar with
  | true =>
    by_cases hz : lf = 0
    · subst hz
      rw [FS.step_cut rfl rfl]
      have H := h.s4 true
      have HH : Hid (IsF _ _ _ _ _ _ _ _ _ _) := H
      clear H DO h
      go_enter Try.func49, Try.ntmps49
      go_wp2_with fail
      go_ret
      exact ⟨rfl, HH.out, (Kp.refl _ _).set _ _ (.inl (by simp))⟩
    · rw [FS.step_armed rfl hz]
      have W1 := wrap64 (lf - 1) (by omega) (by omega)
      have W2 := wrap64 (st + 1) (by omega) (by omega)
      have g1 : (lf == 0) = false := by simp [hz]
      have H := h.s3 (lf - 1)
      have HK : Kp [p] w (w.setCell ⟨p, 3, none⟩ (.int .i64 (lf - 1))) := (Kp.refl _ _).set _ _ (.inl (by simp))
      have CC := DO.out _ _ H HK
      have HH : Hid (Kp [p] w (w.setCell ⟨p, 3, none⟩ (.int .i64 (lf - 1)))) := HK
      clear DO h h0 h1 h2 h3 HK H
      go_enter Try.func49, Try.ntmps49
      go_wp2_with fail
      refine CC.mono ?_
      rintro e w2 ⟨rfl, H2, K2⟩
      clear CC k2 k3 k4 f3 f4
      have k1 := H2.c1
      have f1 := H2.fz 1
      have H3 : Hid (IsF w2 p B n cap _ _ _ _ _) := H2
      clear H2
      go_wp2_with fail
      go_ret
      exact ⟨rfl, H3.out.s1 _, ((HH.out.more (by simp)).trans (K2.more (by simp))).set _ _ (.inl (by simp))⟩
  | false =>
    rw [FS.step_free rfl]
    have W2 := wrap64 (st + 1) (by omega) (by omega)
    have CC := DO.out _ _ h (Kp.refl _ _)
    clear DO h h0 h1 h2 h3
    go_enter Try.func49, Try.ntmps49
    go_wp2_with fail
    refine CC.mono ?_
    rintro e w2 ⟨rfl, H2, K2⟩
    clear CC k2 k3 k4 f3 f4
    have k1 := H2.c1
    have f1 := H2.fz 1
    have H3 : Hid (IsF w2 p B n cap _ _ _ _ _) := H2
    clear H2
    go_wp2_with fail
    go_ret
    exact ⟨rfl, H3.out.s1 _, (K2.more (by simp)).set _ _ (.inl (by simp))⟩
#print axioms stepW_any
#print axioms stepE_any
end Go.Proofs.Ytgpbmccjcjoijaa
