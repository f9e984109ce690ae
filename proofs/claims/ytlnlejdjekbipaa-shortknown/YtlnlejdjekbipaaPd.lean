/-
  What is read of what was written: commands and bytes, there and back.
  What is read of what was written: commands and bytes, there and back.
-/
import Derived.Test.YtlnlejdjekbipaaPb
import Derived.Test.YtlnlejdjekbipaaPc
namespace Go.Proofs.Ytlnlejdjekbipaa
open Go.RowKit

set_option linter.unusedSimpArgs false in
set_option maxHeartbeats 4000000 in
theorem ask_back1 (c : Cm) (ok : c.Ok) (x : B8) (hkk : c.k = 1) (h : wBegin 32 c = some x) : askR x = c ∧ x.Ok := by
  unfold wBegin at h
  split at h
  · rename_i hq
    split at h
    rotate_left
    · cases h
    rename_i hk
    simp only [Bool.and_eq_true] at hk
    obtain ⟨hk, hm1⟩ := hk
    have hc := (only_27 _).1 hk
    simp only [Option.some.injEq] at h
    subst h
    obtain ⟨k, i, s, z, n, q, d, t, l, cc, b, e, u, m, o⟩ := c
    obtain ⟨_, ⟨hi1, hi2⟩, ⟨hs1, hs2⟩, ⟨hn1, hn2⟩, hd, _, _, ⟨hu1, hu2⟩, _, ⟨ho1, ho2⟩⟩ := ok
    simp only [Cm.mk.injEq] at hc
    obtain ⟨_, e1, e2, e3, e4, e5, e6, e7, e8, e9, e10, e11, e12, e13, e14⟩ := hc
    subst hkk
    dsimp only at *
    subst hq e4 e7 e8 e9 e10 e11 e12 e13 e14
    have h4 : d.length ≤ 4 ∧ 1 ≤ d.length := by
      simp [quickOk] at hm1
      omega
    match d, h4 with
    | [], h9 => exact absurd h9.2 (by simp)
    | x0 :: x1 :: x2 :: x3 :: x4 :: r, h9 => exact absurd h9.1 (by simp)
    | [x0], _ =>
      have g0 := hd x0 (by simp)
      cases z
      · simp [quickOk] at hm1
      rw [show q0 32 true [x0].length = 47 from by show q0 32 true 1 = 47; decide +kernel]
      refine ⟨?_, ?_⟩
      · unfold askR
        (try dsimp only)
        rw [if_pos (by decide +kernel)]
        simp only [rdBegin, show bt 47 1 = true from by decide +kernel, show bt 47 2 = true from by decide +kernel, show bt 47 4 = true from by decide +kernel, show bt 47 16 = false from by decide +kernel, show bits .and .u8 (47 / 4) 3 = 3 from by decide +kernel, show bits .and .u8 (47 / 2) 7 = 7 from by decide +kernel, show bits .and .u8 (47 / 4) 7 = 3 from by decide +kernel, Bool.false_eq_true, if_true, if_false, Cm.mk.injEq]
        repeat' apply And.intro
        all_goals first | rfl | omega | decide +kernel | (simp [zb]; done) | (simp [zb]; omega)
      · constructor <;> (try dsimp only) <;> first | omega | decide +kernel | (simp [zb]; done) | (simp [zb]; omega)
    | [x0, x1], _ =>
      have g0 := hd x0 (by simp)
      have g1 := hd x1 (by simp)
      cases z
      · simp [quickOk] at hm1
      rw [show q0 32 true [x0, x1].length = 43 from by show q0 32 true 2 = 43; decide +kernel]
      refine ⟨?_, ?_⟩
      · unfold askR
        (try dsimp only)
        rw [if_pos (by decide +kernel)]
        simp only [rdBegin, show bt 43 1 = true from by decide +kernel, show bt 43 2 = true from by decide +kernel, show bt 43 4 = false from by decide +kernel, show bt 43 16 = false from by decide +kernel, show bits .and .u8 (43 / 4) 3 = 2 from by decide +kernel, show bits .and .u8 (43 / 2) 7 = 5 from by decide +kernel, show bits .and .u8 (43 / 4) 7 = 2 from by decide +kernel, Bool.false_eq_true, if_true, if_false, Cm.mk.injEq]
        repeat' apply And.intro
        all_goals first | rfl | omega | decide +kernel | (simp [zb]; done) | (simp [zb]; omega)
      · constructor <;> (try dsimp only) <;> first | omega | decide +kernel | (simp [zb]; done) | (simp [zb]; omega)
    | [x0, x1, x2], _ =>
      have g0 := hd x0 (by simp)
      have g1 := hd x1 (by simp)
      have g2 := hd x2 (by simp)
      cases z
      · simp [quickOk] at hm1
      rw [show q0 32 true [x0, x1, x2].length = 39 from by show q0 32 true 3 = 39; decide +kernel]
      refine ⟨?_, ?_⟩
      · unfold askR
        (try dsimp only)
        rw [if_pos (by decide +kernel)]
        simp only [rdBegin, show bt 39 1 = true from by decide +kernel, show bt 39 2 = true from by decide +kernel, show bt 39 4 = true from by decide +kernel, show bt 39 16 = false from by decide +kernel, show bits .and .u8 (39 / 4) 3 = 1 from by decide +kernel, show bits .and .u8 (39 / 2) 7 = 3 from by decide +kernel, show bits .and .u8 (39 / 4) 7 = 1 from by decide +kernel, Bool.false_eq_true, if_true, if_false, Cm.mk.injEq]
        repeat' apply And.intro
        all_goals first | rfl | omega | decide +kernel | (simp [zb]; done) | (simp [zb]; omega)
      · constructor <;> (try dsimp only) <;> first | omega | decide +kernel | (simp [zb]; done) | (simp [zb]; omega)
    | [x0, x1, x2, x3], _ =>
      have g0 := hd x0 (by simp)
      have g1 := hd x1 (by simp)
      have g2 := hd x2 (by simp)
      have g3 := hd x3 (by simp)
      cases z
      · rw [show q0 32 false [x0, x1, x2, x3].length = 34 from by show q0 32 false 4 = 34; decide +kernel]
        refine ⟨?_, ?_⟩
        · unfold askR
          (try dsimp only)
          rw [if_pos (by decide +kernel)]
          simp only [rdBegin, show bt 34 1 = false from by decide +kernel, show bt 34 2 = true from by decide +kernel, show bt 34 4 = false from by decide +kernel, show bt 34 16 = false from by decide +kernel, show bits .and .u8 (34 / 4) 3 = 0 from by decide +kernel, show bits .and .u8 (34 / 2) 7 = 1 from by decide +kernel, show bits .and .u8 (34 / 4) 7 = 0 from by decide +kernel, Bool.false_eq_true, if_true, if_false, Cm.mk.injEq]
          repeat' apply And.intro
          all_goals first | rfl | omega | decide +kernel | (simp [zb]; done) | (simp [zb]; omega)
        · constructor <;> (try dsimp only) <;> first | omega | decide +kernel | (simp [zb]; done) | (simp [zb]; omega)
      · rw [show q0 32 true [x0, x1, x2, x3].length = 35 from by show q0 32 true 4 = 35; decide +kernel]
        refine ⟨?_, ?_⟩
        · unfold askR
          (try dsimp only)
          rw [if_pos (by decide +kernel)]
          simp only [rdBegin, show bt 35 1 = true from by decide +kernel, show bt 35 2 = true from by decide +kernel, show bt 35 4 = false from by decide +kernel, show bt 35 16 = false from by decide +kernel, show bits .and .u8 (35 / 4) 3 = 0 from by decide +kernel, show bits .and .u8 (35 / 2) 7 = 1 from by decide +kernel, show bits .and .u8 (35 / 4) 7 = 0 from by decide +kernel, Bool.false_eq_true, if_true, if_false, Cm.mk.injEq]
          repeat' apply And.intro
          all_goals first | rfl | omega | decide +kernel | (simp [zb]; done) | (simp [zb]; omega)
        · constructor <;> (try dsimp only) <;> first | omega | decide +kernel | (simp [zb]; done) | (simp [zb]; omega)
  · rename_i hq
    split at h
    rotate_left
    · cases h
    rename_i hk
    simp only [Bool.and_eq_true, Bool.or_eq_true, beq_iff_eq] at hk
    obtain ⟨hk, hm1⟩ := hk
    have hc := (only_7 _).1 hk
    simp only [Option.some.injEq] at h
    subst h
    obtain ⟨k, i, s, z, n, q, d, t, l, cc, b, e, u, m, o⟩ := c
    obtain ⟨_, ⟨hi1, hi2⟩, ⟨hs1, hs2⟩, ⟨hn1, hn2⟩, hd, _, _, ⟨hu1, hu2⟩, _, ⟨ho1, ho2⟩⟩ := ok
    simp only [Cm.mk.injEq] at hc
    obtain ⟨_, e1, e2, e3, e4, e5, e6, e7, e8, e9, e10, e11, e12, e13, e14⟩ := hc
    subst hkk
    dsimp only at *
    subst e5 e6 e7 e8 e9 e10 e11 e12 e13 e14
    cases z
    · obtain rfl : n = 0 := by simpa using hm1
      rw [show bits .or .u8 32 (bitv false 1) = 32 from by decide +kernel]
      refine ⟨?_, ?_⟩
      · unfold askR
        (try dsimp only)
        rw [if_pos (by decide +kernel)]
        simp only [rdBegin, show bt 32 1 = false from by decide +kernel, show bt 32 2 = false from by decide +kernel, show bt 32 4 = false from by decide +kernel, show bt 32 16 = false from by decide +kernel, show bits .and .u8 (32 / 4) 3 = 0 from by decide +kernel, show bits .and .u8 (32 / 2) 7 = 0 from by decide +kernel, show bits .and .u8 (32 / 4) 7 = 0 from by decide +kernel, Bool.false_eq_true, if_true, if_false, Cm.mk.injEq]
        repeat' apply And.intro
        all_goals first | rfl | omega | decide +kernel | (simp [zb]; done) | (simp [zb]; omega)
      · constructor <;> (try dsimp only) <;> first | omega | decide +kernel | (simp [zb]; done) | (simp [zb]; omega)
    · rw [show bits .or .u8 32 (bitv true 1) = 33 from by decide +kernel]
      refine ⟨?_, ?_⟩
      · unfold askR
        (try dsimp only)
        rw [if_pos (by decide +kernel)]
        simp only [rdBegin, show bt 33 1 = true from by decide +kernel, show bt 33 2 = false from by decide +kernel, show bt 33 4 = false from by decide +kernel, show bt 33 16 = false from by decide +kernel, show bits .and .u8 (33 / 4) 3 = 0 from by decide +kernel, show bits .and .u8 (33 / 2) 7 = 0 from by decide +kernel, show bits .and .u8 (33 / 4) 7 = 0 from by decide +kernel, Bool.false_eq_true, if_true, if_false, Cm.mk.injEq]
        repeat' apply And.intro
        all_goals first | rfl | omega | decide +kernel | (simp [zb]; done) | (simp [zb]; omega)
      · constructor <;> (try dsimp only) <;> first | omega | decide +kernel | (simp [zb]; done) | (simp [zb]; omega)
set_option linter.unusedSimpArgs false in
set_option maxHeartbeats 4000000 in
theorem ask_back2 (c : Cm) (ok : c.Ok) (x : B8) (hkk : c.k = 2) (h : wPart 0 c = some x) : askR x = c ∧ x.Ok := by
  unfold wPart at h
  split at h
  rotate_left
  · cases h
  rename_i hk
  simp only [Bool.and_eq_true] at hk
  obtain ⟨hk, hm1⟩ := hk
  have hc := (only_112 _).1 hk
  simp only [Option.some.injEq] at h
  subst h
  obtain ⟨k, i, s, z, n, q, d, t, l, cc, b, e, u, m, o⟩ := c
  obtain ⟨_, ⟨hi1, hi2⟩, ⟨hs1, hs2⟩, ⟨hn1, hn2⟩, hd, _, _, ⟨hu1, hu2⟩, _, ⟨ho1, ho2⟩⟩ := ok
  simp only [Cm.mk.injEq] at hc
  obtain ⟨_, e1, e2, e3, e4, e5, e6, e7, e8, e9, e10, e11, e12, e13, e14⟩ := hc
  subst hkk
  dsimp only at *
  subst e1 e2 e3 e4 e5 e9 e10 e11 e12 e13 e14
  have h7 : d.length ≤ 7 := by
    simp only [fits, Bool.or_eq_true, beq_iff_eq, Bool.and_eq_true, decide_eq_true_eq] at hm1
    omega
  match d, h7 with
  | [], _ =>
    cases l
    · simp [fits] at hm1
    cases t
    · rw [show p0 0 false true [].length = 15 from by show p0 0 false true 0 = 15; decide +kernel]
      refine ⟨?_, ?_⟩
      · unfold askR
        (try dsimp only)
        rw [if_neg (by decide +kernel)]
        rw [if_pos (by decide +kernel)]
        simp only [rdPart, show bt 15 1 = true from by decide +kernel, show bt 15 2 = true from by decide +kernel, show bt 15 4 = true from by decide +kernel, show bt 15 16 = false from by decide +kernel, show bits .and .u8 (15 / 4) 3 = 3 from by decide +kernel, show bits .and .u8 (15 / 2) 7 = 7 from by decide +kernel, show bits .and .u8 (15 / 4) 7 = 3 from by decide +kernel, Bool.false_eq_true, if_true, if_false, Cm.mk.injEq]
        repeat' apply And.intro
        all_goals first | rfl | omega | decide +kernel | (simp [zb]; done) | (simp [zb]; omega)
      · constructor <;> (try dsimp only) <;> first | omega | decide +kernel | (simp [zb]; done) | (simp [zb]; omega)
    · rw [show p0 0 true true [].length = 31 from by show p0 0 true true 0 = 31; decide +kernel]
      refine ⟨?_, ?_⟩
      · unfold askR
        (try dsimp only)
        rw [if_neg (by decide +kernel)]
        rw [if_pos (by decide +kernel)]
        simp only [rdPart, show bt 31 1 = true from by decide +kernel, show bt 31 2 = true from by decide +kernel, show bt 31 4 = true from by decide +kernel, show bt 31 16 = true from by decide +kernel, show bits .and .u8 (31 / 4) 3 = 3 from by decide +kernel, show bits .and .u8 (31 / 2) 7 = 7 from by decide +kernel, show bits .and .u8 (31 / 4) 7 = 7 from by decide +kernel, Bool.false_eq_true, if_true, if_false, Cm.mk.injEq]
        repeat' apply And.intro
        all_goals first | rfl | omega | decide +kernel | (simp [zb]; done) | (simp [zb]; omega)
      · constructor <;> (try dsimp only) <;> first | omega | decide +kernel | (simp [zb]; done) | (simp [zb]; omega)
  | [x0], _ =>
    have g0 := hd x0 (by simp)
    cases l
    · simp [fits] at hm1
    cases t
    · rw [show p0 0 false true [x0].length = 13 from by show p0 0 false true 1 = 13; decide +kernel]
      refine ⟨?_, ?_⟩
      · unfold askR
        (try dsimp only)
        rw [if_neg (by decide +kernel)]
        rw [if_pos (by decide +kernel)]
        simp only [rdPart, show bt 13 1 = true from by decide +kernel, show bt 13 2 = false from by decide +kernel, show bt 13 4 = true from by decide +kernel, show bt 13 16 = false from by decide +kernel, show bits .and .u8 (13 / 4) 3 = 3 from by decide +kernel, show bits .and .u8 (13 / 2) 7 = 6 from by decide +kernel, show bits .and .u8 (13 / 4) 7 = 3 from by decide +kernel, Bool.false_eq_true, if_true, if_false, Cm.mk.injEq]
        repeat' apply And.intro
        all_goals first | rfl | omega | decide +kernel | (simp [zb]; done) | (simp [zb]; omega)
      · constructor <;> (try dsimp only) <;> first | omega | decide +kernel | (simp [zb]; done) | (simp [zb]; omega)
    · rw [show p0 0 true true [x0].length = 29 from by show p0 0 true true 1 = 29; decide +kernel]
      refine ⟨?_, ?_⟩
      · unfold askR
        (try dsimp only)
        rw [if_neg (by decide +kernel)]
        rw [if_pos (by decide +kernel)]
        simp only [rdPart, show bt 29 1 = true from by decide +kernel, show bt 29 2 = false from by decide +kernel, show bt 29 4 = true from by decide +kernel, show bt 29 16 = true from by decide +kernel, show bits .and .u8 (29 / 4) 3 = 3 from by decide +kernel, show bits .and .u8 (29 / 2) 7 = 6 from by decide +kernel, show bits .and .u8 (29 / 4) 7 = 7 from by decide +kernel, Bool.false_eq_true, if_true, if_false, Cm.mk.injEq]
        repeat' apply And.intro
        all_goals first | rfl | omega | decide +kernel | (simp [zb]; done) | (simp [zb]; omega)
      · constructor <;> (try dsimp only) <;> first | omega | decide +kernel | (simp [zb]; done) | (simp [zb]; omega)
  | [x0, x1], _ =>
    have g0 := hd x0 (by simp)
    have g1 := hd x1 (by simp)
    cases l
    · simp [fits] at hm1
    cases t
    · rw [show p0 0 false true [x0, x1].length = 11 from by show p0 0 false true 2 = 11; decide +kernel]
      refine ⟨?_, ?_⟩
      · unfold askR
        (try dsimp only)
        rw [if_neg (by decide +kernel)]
        rw [if_pos (by decide +kernel)]
        simp only [rdPart, show bt 11 1 = true from by decide +kernel, show bt 11 2 = true from by decide +kernel, show bt 11 4 = false from by decide +kernel, show bt 11 16 = false from by decide +kernel, show bits .and .u8 (11 / 4) 3 = 2 from by decide +kernel, show bits .and .u8 (11 / 2) 7 = 5 from by decide +kernel, show bits .and .u8 (11 / 4) 7 = 2 from by decide +kernel, Bool.false_eq_true, if_true, if_false, Cm.mk.injEq]
        repeat' apply And.intro
        all_goals first | rfl | omega | decide +kernel | (simp [zb]; done) | (simp [zb]; omega)
      · constructor <;> (try dsimp only) <;> first | omega | decide +kernel | (simp [zb]; done) | (simp [zb]; omega)
    · rw [show p0 0 true true [x0, x1].length = 27 from by show p0 0 true true 2 = 27; decide +kernel]
      refine ⟨?_, ?_⟩
      · unfold askR
        (try dsimp only)
        rw [if_neg (by decide +kernel)]
        rw [if_pos (by decide +kernel)]
        simp only [rdPart, show bt 27 1 = true from by decide +kernel, show bt 27 2 = true from by decide +kernel, show bt 27 4 = false from by decide +kernel, show bt 27 16 = true from by decide +kernel, show bits .and .u8 (27 / 4) 3 = 2 from by decide +kernel, show bits .and .u8 (27 / 2) 7 = 5 from by decide +kernel, show bits .and .u8 (27 / 4) 7 = 6 from by decide +kernel, Bool.false_eq_true, if_true, if_false, Cm.mk.injEq]
        repeat' apply And.intro
        all_goals first | rfl | omega | decide +kernel | (simp [zb]; done) | (simp [zb]; omega)
      · constructor <;> (try dsimp only) <;> first | omega | decide +kernel | (simp [zb]; done) | (simp [zb]; omega)
  | [x0, x1, x2], _ =>
    have g0 := hd x0 (by simp)
    have g1 := hd x1 (by simp)
    have g2 := hd x2 (by simp)
    cases l
    · simp [fits] at hm1
    cases t
    · rw [show p0 0 false true [x0, x1, x2].length = 9 from by show p0 0 false true 3 = 9; decide +kernel]
      refine ⟨?_, ?_⟩
      · unfold askR
        (try dsimp only)
        rw [if_neg (by decide +kernel)]
        rw [if_pos (by decide +kernel)]
        simp only [rdPart, show bt 9 1 = true from by decide +kernel, show bt 9 2 = false from by decide +kernel, show bt 9 4 = false from by decide +kernel, show bt 9 16 = false from by decide +kernel, show bits .and .u8 (9 / 4) 3 = 2 from by decide +kernel, show bits .and .u8 (9 / 2) 7 = 4 from by decide +kernel, show bits .and .u8 (9 / 4) 7 = 2 from by decide +kernel, Bool.false_eq_true, if_true, if_false, Cm.mk.injEq]
        repeat' apply And.intro
        all_goals first | rfl | omega | decide +kernel | (simp [zb]; done) | (simp [zb]; omega)
      · constructor <;> (try dsimp only) <;> first | omega | decide +kernel | (simp [zb]; done) | (simp [zb]; omega)
    · rw [show p0 0 true true [x0, x1, x2].length = 25 from by show p0 0 true true 3 = 25; decide +kernel]
      refine ⟨?_, ?_⟩
      · unfold askR
        (try dsimp only)
        rw [if_neg (by decide +kernel)]
        rw [if_pos (by decide +kernel)]
        simp only [rdPart, show bt 25 1 = true from by decide +kernel, show bt 25 2 = false from by decide +kernel, show bt 25 4 = false from by decide +kernel, show bt 25 16 = true from by decide +kernel, show bits .and .u8 (25 / 4) 3 = 2 from by decide +kernel, show bits .and .u8 (25 / 2) 7 = 4 from by decide +kernel, show bits .and .u8 (25 / 4) 7 = 6 from by decide +kernel, Bool.false_eq_true, if_true, if_false, Cm.mk.injEq]
        repeat' apply And.intro
        all_goals first | rfl | omega | decide +kernel | (simp [zb]; done) | (simp [zb]; omega)
      · constructor <;> (try dsimp only) <;> first | omega | decide +kernel | (simp [zb]; done) | (simp [zb]; omega)
  | [x0, x1, x2, x3], _ =>
    have g0 := hd x0 (by simp)
    have g1 := hd x1 (by simp)
    have g2 := hd x2 (by simp)
    have g3 := hd x3 (by simp)
    cases l
    · simp [fits] at hm1
    cases t
    · rw [show p0 0 false true [x0, x1, x2, x3].length = 7 from by show p0 0 false true 4 = 7; decide +kernel]
      refine ⟨?_, ?_⟩
      · unfold askR
        (try dsimp only)
        rw [if_neg (by decide +kernel)]
        rw [if_pos (by decide +kernel)]
        simp only [rdPart, show bt 7 1 = true from by decide +kernel, show bt 7 2 = true from by decide +kernel, show bt 7 4 = true from by decide +kernel, show bt 7 16 = false from by decide +kernel, show bits .and .u8 (7 / 4) 3 = 1 from by decide +kernel, show bits .and .u8 (7 / 2) 7 = 3 from by decide +kernel, show bits .and .u8 (7 / 4) 7 = 1 from by decide +kernel, Bool.false_eq_true, if_true, if_false, Cm.mk.injEq]
        repeat' apply And.intro
        all_goals first | rfl | omega | decide +kernel | (simp [zb]; done) | (simp [zb]; omega)
      · constructor <;> (try dsimp only) <;> first | omega | decide +kernel | (simp [zb]; done) | (simp [zb]; omega)
    · rw [show p0 0 true true [x0, x1, x2, x3].length = 23 from by show p0 0 true true 4 = 23; decide +kernel]
      refine ⟨?_, ?_⟩
      · unfold askR
        (try dsimp only)
        rw [if_neg (by decide +kernel)]
        rw [if_pos (by decide +kernel)]
        simp only [rdPart, show bt 23 1 = true from by decide +kernel, show bt 23 2 = true from by decide +kernel, show bt 23 4 = true from by decide +kernel, show bt 23 16 = true from by decide +kernel, show bits .and .u8 (23 / 4) 3 = 1 from by decide +kernel, show bits .and .u8 (23 / 2) 7 = 3 from by decide +kernel, show bits .and .u8 (23 / 4) 7 = 5 from by decide +kernel, Bool.false_eq_true, if_true, if_false, Cm.mk.injEq]
        repeat' apply And.intro
        all_goals first | rfl | omega | decide +kernel | (simp [zb]; done) | (simp [zb]; omega)
      · constructor <;> (try dsimp only) <;> first | omega | decide +kernel | (simp [zb]; done) | (simp [zb]; omega)
  | [x0, x1, x2, x3, x4], _ =>
    have g0 := hd x0 (by simp)
    have g1 := hd x1 (by simp)
    have g2 := hd x2 (by simp)
    have g3 := hd x3 (by simp)
    have g4 := hd x4 (by simp)
    cases l
    · simp [fits] at hm1
    cases t
    · rw [show p0 0 false true [x0, x1, x2, x3, x4].length = 5 from by show p0 0 false true 5 = 5; decide +kernel]
      refine ⟨?_, ?_⟩
      · unfold askR
        (try dsimp only)
        rw [if_neg (by decide +kernel)]
        rw [if_pos (by decide +kernel)]
        simp only [rdPart, show bt 5 1 = true from by decide +kernel, show bt 5 2 = false from by decide +kernel, show bt 5 4 = true from by decide +kernel, show bt 5 16 = false from by decide +kernel, show bits .and .u8 (5 / 4) 3 = 1 from by decide +kernel, show bits .and .u8 (5 / 2) 7 = 2 from by decide +kernel, show bits .and .u8 (5 / 4) 7 = 1 from by decide +kernel, Bool.false_eq_true, if_true, if_false, Cm.mk.injEq]
        repeat' apply And.intro
        all_goals first | rfl | omega | decide +kernel | (simp [zb]; done) | (simp [zb]; omega)
      · constructor <;> (try dsimp only) <;> first | omega | decide +kernel | (simp [zb]; done) | (simp [zb]; omega)
    · rw [show p0 0 true true [x0, x1, x2, x3, x4].length = 21 from by show p0 0 true true 5 = 21; decide +kernel]
      refine ⟨?_, ?_⟩
      · unfold askR
        (try dsimp only)
        rw [if_neg (by decide +kernel)]
        rw [if_pos (by decide +kernel)]
        simp only [rdPart, show bt 21 1 = true from by decide +kernel, show bt 21 2 = false from by decide +kernel, show bt 21 4 = true from by decide +kernel, show bt 21 16 = true from by decide +kernel, show bits .and .u8 (21 / 4) 3 = 1 from by decide +kernel, show bits .and .u8 (21 / 2) 7 = 2 from by decide +kernel, show bits .and .u8 (21 / 4) 7 = 5 from by decide +kernel, Bool.false_eq_true, if_true, if_false, Cm.mk.injEq]
        repeat' apply And.intro
        all_goals first | rfl | omega | decide +kernel | (simp [zb]; done) | (simp [zb]; omega)
      · constructor <;> (try dsimp only) <;> first | omega | decide +kernel | (simp [zb]; done) | (simp [zb]; omega)
  | [x0, x1, x2, x3, x4, x5], _ =>
    have g0 := hd x0 (by simp)
    have g1 := hd x1 (by simp)
    have g2 := hd x2 (by simp)
    have g3 := hd x3 (by simp)
    have g4 := hd x4 (by simp)
    have g5 := hd x5 (by simp)
    cases l
    · simp [fits] at hm1
    cases t
    · rw [show p0 0 false true [x0, x1, x2, x3, x4, x5].length = 3 from by show p0 0 false true 6 = 3; decide +kernel]
      refine ⟨?_, ?_⟩
      · unfold askR
        (try dsimp only)
        rw [if_neg (by decide +kernel)]
        rw [if_pos (by decide +kernel)]
        simp only [rdPart, show bt 3 1 = true from by decide +kernel, show bt 3 2 = true from by decide +kernel, show bt 3 4 = false from by decide +kernel, show bt 3 16 = false from by decide +kernel, show bits .and .u8 (3 / 4) 3 = 0 from by decide +kernel, show bits .and .u8 (3 / 2) 7 = 1 from by decide +kernel, show bits .and .u8 (3 / 4) 7 = 0 from by decide +kernel, Bool.false_eq_true, if_true, if_false, Cm.mk.injEq]
        repeat' apply And.intro
        all_goals first | rfl | omega | decide +kernel | (simp [zb]; done) | (simp [zb]; omega)
      · constructor <;> (try dsimp only) <;> first | omega | decide +kernel | (simp [zb]; done) | (simp [zb]; omega)
    · rw [show p0 0 true true [x0, x1, x2, x3, x4, x5].length = 19 from by show p0 0 true true 6 = 19; decide +kernel]
      refine ⟨?_, ?_⟩
      · unfold askR
        (try dsimp only)
        rw [if_neg (by decide +kernel)]
        rw [if_pos (by decide +kernel)]
        simp only [rdPart, show bt 19 1 = true from by decide +kernel, show bt 19 2 = true from by decide +kernel, show bt 19 4 = false from by decide +kernel, show bt 19 16 = true from by decide +kernel, show bits .and .u8 (19 / 4) 3 = 0 from by decide +kernel, show bits .and .u8 (19 / 2) 7 = 1 from by decide +kernel, show bits .and .u8 (19 / 4) 7 = 4 from by decide +kernel, Bool.false_eq_true, if_true, if_false, Cm.mk.injEq]
        repeat' apply And.intro
        all_goals first | rfl | omega | decide +kernel | (simp [zb]; done) | (simp [zb]; omega)
      · constructor <;> (try dsimp only) <;> first | omega | decide +kernel | (simp [zb]; done) | (simp [zb]; omega)
  | [x0, x1, x2, x3, x4, x5, x6], _ =>
    have g0 := hd x0 (by simp)
    have g1 := hd x1 (by simp)
    have g2 := hd x2 (by simp)
    have g3 := hd x3 (by simp)
    have g4 := hd x4 (by simp)
    have g5 := hd x5 (by simp)
    have g6 := hd x6 (by simp)
    cases l
    · cases t
      · rw [show p0 0 false false [x0, x1, x2, x3, x4, x5, x6].length = 0 from by show p0 0 false false 7 = 0; decide +kernel]
        refine ⟨?_, ?_⟩
        · unfold askR
          (try dsimp only)
          rw [if_neg (by decide +kernel)]
          rw [if_pos (by decide +kernel)]
          simp only [rdPart, show bt 0 1 = false from by decide +kernel, show bt 0 2 = false from by decide +kernel, show bt 0 4 = false from by decide +kernel, show bt 0 16 = false from by decide +kernel, show bits .and .u8 (0 / 4) 3 = 0 from by decide +kernel, show bits .and .u8 (0 / 2) 7 = 0 from by decide +kernel, show bits .and .u8 (0 / 4) 7 = 0 from by decide +kernel, Bool.false_eq_true, if_true, if_false, Cm.mk.injEq]
          repeat' apply And.intro
          all_goals first | rfl | omega | decide +kernel | (simp [zb]; done) | (simp [zb]; omega)
        · constructor <;> (try dsimp only) <;> first | omega | decide +kernel | (simp [zb]; done) | (simp [zb]; omega)
      · rw [show p0 0 true false [x0, x1, x2, x3, x4, x5, x6].length = 16 from by show p0 0 true false 7 = 16; decide +kernel]
        refine ⟨?_, ?_⟩
        · unfold askR
          (try dsimp only)
          rw [if_neg (by decide +kernel)]
          rw [if_pos (by decide +kernel)]
          simp only [rdPart, show bt 16 1 = false from by decide +kernel, show bt 16 2 = false from by decide +kernel, show bt 16 4 = false from by decide +kernel, show bt 16 16 = true from by decide +kernel, show bits .and .u8 (16 / 4) 3 = 0 from by decide +kernel, show bits .and .u8 (16 / 2) 7 = 0 from by decide +kernel, show bits .and .u8 (16 / 4) 7 = 4 from by decide +kernel, Bool.false_eq_true, if_true, if_false, Cm.mk.injEq]
          repeat' apply And.intro
          all_goals first | rfl | omega | decide +kernel | (simp [zb]; done) | (simp [zb]; omega)
        · constructor <;> (try dsimp only) <;> first | omega | decide +kernel | (simp [zb]; done) | (simp [zb]; omega)
    · cases t
      · rw [show p0 0 false true [x0, x1, x2, x3, x4, x5, x6].length = 1 from by show p0 0 false true 7 = 1; decide +kernel]
        refine ⟨?_, ?_⟩
        · unfold askR
          (try dsimp only)
          rw [if_neg (by decide +kernel)]
          rw [if_pos (by decide +kernel)]
          simp only [rdPart, show bt 1 1 = true from by decide +kernel, show bt 1 2 = false from by decide +kernel, show bt 1 4 = false from by decide +kernel, show bt 1 16 = false from by decide +kernel, show bits .and .u8 (1 / 4) 3 = 0 from by decide +kernel, show bits .and .u8 (1 / 2) 7 = 0 from by decide +kernel, show bits .and .u8 (1 / 4) 7 = 0 from by decide +kernel, Bool.false_eq_true, if_true, if_false, Cm.mk.injEq]
          repeat' apply And.intro
          all_goals first | rfl | omega | decide +kernel | (simp [zb]; done) | (simp [zb]; omega)
        · constructor <;> (try dsimp only) <;> first | omega | decide +kernel | (simp [zb]; done) | (simp [zb]; omega)
      · rw [show p0 0 true true [x0, x1, x2, x3, x4, x5, x6].length = 17 from by show p0 0 true true 7 = 17; decide +kernel]
        refine ⟨?_, ?_⟩
        · unfold askR
          (try dsimp only)
          rw [if_neg (by decide +kernel)]
          rw [if_pos (by decide +kernel)]
          simp only [rdPart, show bt 17 1 = true from by decide +kernel, show bt 17 2 = false from by decide +kernel, show bt 17 4 = false from by decide +kernel, show bt 17 16 = true from by decide +kernel, show bits .and .u8 (17 / 4) 3 = 0 from by decide +kernel, show bits .and .u8 (17 / 2) 7 = 0 from by decide +kernel, show bits .and .u8 (17 / 4) 7 = 4 from by decide +kernel, Bool.false_eq_true, if_true, if_false, Cm.mk.injEq]
          repeat' apply And.intro
          all_goals first | rfl | omega | decide +kernel | (simp [zb]; done) | (simp [zb]; omega)
        · constructor <;> (try dsimp only) <;> first | omega | decide +kernel | (simp [zb]; done) | (simp [zb]; omega)
set_option linter.unusedSimpArgs false in
set_option maxHeartbeats 4000000 in
theorem ask_back3 (c : Cm) (ok : c.Ok) (x : B8) (hkk : c.k = 3) (h : wPlace 64 c = some x) : askR x = c ∧ x.Ok := by
  unfold wPlace at h
  split at h
  rotate_left
  · cases h
  rename_i hk
  have hc := (only_1 _).1 hk
  simp only [Option.some.injEq] at h
  subst h
  obtain ⟨k, i, s, z, n, q, d, t, l, cc, b, e, u, m, o⟩ := c
  obtain ⟨_, ⟨hi1, hi2⟩, ⟨hs1, hs2⟩, ⟨hn1, hn2⟩, hd, _, _, ⟨hu1, hu2⟩, _, ⟨ho1, ho2⟩⟩ := ok
  simp only [Cm.mk.injEq] at hc
  obtain ⟨_, e1, e2, e3, e4, e5, e6, e7, e8, e9, e10, e11, e12, e13, e14⟩ := hc
  subst hkk
  dsimp only at *
  subst e3 e4 e5 e6 e7 e8 e9 e10 e11 e12 e13 e14
  refine ⟨?_, ?_⟩
  · unfold askR
    (try dsimp only)
    rw [if_neg (by decide +kernel), if_neg (by decide +kernel)]
    rw [if_pos (by decide +kernel)]
    simp only [rdPlace, show bt 64 1 = false from by decide +kernel, show bt 64 2 = false from by decide +kernel, show bt 64 4 = false from by decide +kernel, show bt 64 16 = false from by decide +kernel, show bits .and .u8 (64 / 4) 3 = 0 from by decide +kernel, show bits .and .u8 (64 / 2) 7 = 0 from by decide +kernel, show bits .and .u8 (64 / 4) 7 = 0 from by decide +kernel, Bool.false_eq_true, if_true, if_false, Cm.mk.injEq]
    repeat' apply And.intro
    all_goals first | rfl | omega | decide +kernel | (simp [zb]; done) | (simp [zb]; omega)
  · constructor <;> (try dsimp only) <;> first | omega | decide +kernel | (simp [zb]; done) | (simp [zb]; omega)
set_option linter.unusedSimpArgs false in
set_option maxHeartbeats 4000000 in
theorem ask_back4 (c : Cm) (ok : c.Ok) (x : B8) (hkk : c.k = 4) (h : wToggle 96 c = some x) : askR x = c ∧ x.Ok := by
  unfold wToggle at h
  split at h
  rotate_left
  · cases h
  rename_i hk
  have hc := (only_32 _).1 hk
  simp only [Option.some.injEq] at h
  subst h
  obtain ⟨k, i, s, z, n, q, d, t, l, cc, b, e, u, m, o⟩ := c
  obtain ⟨_, ⟨hi1, hi2⟩, ⟨hs1, hs2⟩, ⟨hn1, hn2⟩, hd, _, _, ⟨hu1, hu2⟩, _, ⟨ho1, ho2⟩⟩ := ok
  simp only [Cm.mk.injEq] at hc
  obtain ⟨_, e1, e2, e3, e4, e5, e6, e7, e8, e9, e10, e11, e12, e13, e14⟩ := hc
  subst hkk
  dsimp only at *
  subst e1 e2 e3 e4 e5 e6 e8 e9 e10 e11 e12 e13 e14
  cases t
  · rw [show bits .or .u8 96 (bitv false 16) = 96 from by decide +kernel]
    refine ⟨?_, ?_⟩
    · unfold askR
      (try dsimp only)
      rw [if_neg (by decide +kernel), if_neg (by decide +kernel), if_neg (by decide +kernel)]
      rw [if_pos (by decide +kernel)]
      simp only [rdToggle, show bt 96 1 = false from by decide +kernel, show bt 96 2 = false from by decide +kernel, show bt 96 4 = false from by decide +kernel, show bt 96 16 = false from by decide +kernel, show bits .and .u8 (96 / 4) 3 = 0 from by decide +kernel, show bits .and .u8 (96 / 2) 7 = 0 from by decide +kernel, show bits .and .u8 (96 / 4) 7 = 0 from by decide +kernel, Bool.false_eq_true, if_true, if_false, Cm.mk.injEq]
      repeat' apply And.intro
      all_goals first | rfl | omega | decide +kernel | (simp [zb]; done) | (simp [zb]; omega)
    · constructor <;> (try dsimp only) <;> first | omega | decide +kernel | (simp [zb]; done) | (simp [zb]; omega)
  · rw [show bits .or .u8 96 (bitv true 16) = 112 from by decide +kernel]
    refine ⟨?_, ?_⟩
    · unfold askR
      (try dsimp only)
      rw [if_neg (by decide +kernel), if_neg (by decide +kernel), if_neg (by decide +kernel)]
      rw [if_pos (by decide +kernel)]
      simp only [rdToggle, show bt 112 1 = false from by decide +kernel, show bt 112 2 = false from by decide +kernel, show bt 112 4 = false from by decide +kernel, show bt 112 16 = true from by decide +kernel, show bits .and .u8 (112 / 4) 3 = 0 from by decide +kernel, show bits .and .u8 (112 / 2) 7 = 0 from by decide +kernel, show bits .and .u8 (112 / 4) 7 = 4 from by decide +kernel, Bool.false_eq_true, if_true, if_false, Cm.mk.injEq]
      repeat' apply And.intro
      all_goals first | rfl | omega | decide +kernel | (simp [zb]; done) | (simp [zb]; omega)
    · constructor <;> (try dsimp only) <;> first | omega | decide +kernel | (simp [zb]; done) | (simp [zb]; omega)
set_option linter.unusedSimpArgs false in
set_option maxHeartbeats 4000000 in
theorem ask_back5 (c : Cm) (ok : c.Ok) (x : B8) (hkk : c.k = 5) (h : wStop 128 c = some x) : askR x = c ∧ x.Ok := by
  unfold wStop at h
  split at h
  rotate_left
  · cases h
  rename_i hk
  have hc := (only_4097 _).1 hk
  simp only [Option.some.injEq] at h
  subst h
  obtain ⟨k, i, s, z, n, q, d, t, l, cc, b, e, u, m, o⟩ := c
  obtain ⟨_, ⟨hi1, hi2⟩, ⟨hs1, hs2⟩, ⟨hn1, hn2⟩, hd, _, _, ⟨hu1, hu2⟩, _, ⟨ho1, ho2⟩⟩ := ok
  simp only [Cm.mk.injEq] at hc
  obtain ⟨_, e1, e2, e3, e4, e5, e6, e7, e8, e9, e10, e11, e12, e13, e14⟩ := hc
  subst hkk
  dsimp only at *
  subst e3 e4 e5 e6 e7 e8 e9 e10 e11 e12 e13
  refine ⟨?_, ?_⟩
  · unfold askR
    (try dsimp only)
    rw [if_neg (by decide +kernel), if_neg (by decide +kernel), if_neg (by decide +kernel), if_neg (by decide +kernel)]
    rw [if_pos (by decide +kernel)]
    simp only [rdStop, show bt 128 1 = false from by decide +kernel, show bt 128 2 = false from by decide +kernel, show bt 128 4 = false from by decide +kernel, show bt 128 16 = false from by decide +kernel, show bits .and .u8 (128 / 4) 3 = 0 from by decide +kernel, show bits .and .u8 (128 / 2) 7 = 0 from by decide +kernel, show bits .and .u8 (128 / 4) 7 = 0 from by decide +kernel, Bool.false_eq_true, if_true, if_false, Cm.mk.injEq]
    repeat' apply And.intro
    all_goals first | rfl | omega | decide +kernel | (simp [zb]; done) | (simp [zb]; omega)
  · constructor <;> (try dsimp only) <;> first | omega | decide +kernel | (simp [zb]; done) | (simp [zb]; omega)
set_option linter.unusedSimpArgs false in
set_option maxHeartbeats 4000000 in
theorem ask_back6 (c : Cm) (ok : c.Ok) (x : B8) (hkk : c.k = 6) (h : wSize 192 c = some x) : askR x = c ∧ x.Ok := by
  unfold wSize at h
  split at h
  rotate_left
  · cases h
  rename_i hk
  simp only [Bool.and_eq_true, Bool.or_eq_true, beq_iff_eq] at hk
  obtain ⟨hk, hm1⟩ := hk
  have hc := (only_135 _).1 hk
  simp only [Option.some.injEq] at h
  subst h
  obtain ⟨k, i, s, z, n, q, d, t, l, cc, b, e, u, m, o⟩ := c
  obtain ⟨_, ⟨hi1, hi2⟩, ⟨hs1, hs2⟩, ⟨hn1, hn2⟩, hd, _, _, ⟨hu1, hu2⟩, _, ⟨ho1, ho2⟩⟩ := ok
  simp only [Cm.mk.injEq] at hc
  obtain ⟨_, e1, e2, e3, e4, e5, e6, e7, e8, e9, e10, e11, e12, e13, e14⟩ := hc
  subst hkk
  dsimp only at *
  subst e5 e6 e7 e8 e10 e11 e12 e13 e14
  cases z
  · obtain rfl : n = 0 := by simpa using hm1
    cases cc
    · rw [show bits .or .u8 192 (bits .or .u8 (bitv false 4) (bitv false 2)) = 192 from by decide +kernel]
      refine ⟨?_, ?_⟩
      · unfold askR
        (try dsimp only)
        rw [if_neg (by decide +kernel), if_neg (by decide +kernel), if_neg (by decide +kernel), if_neg (by decide +kernel), if_neg (by decide +kernel)]
        rw [if_pos (by decide +kernel)]
        simp only [rdSize, show bt 192 1 = false from by decide +kernel, show bt 192 2 = false from by decide +kernel, show bt 192 4 = false from by decide +kernel, show bt 192 16 = false from by decide +kernel, show bits .and .u8 (192 / 4) 3 = 0 from by decide +kernel, show bits .and .u8 (192 / 2) 7 = 0 from by decide +kernel, show bits .and .u8 (192 / 4) 7 = 0 from by decide +kernel, Bool.false_eq_true, if_true, if_false, Cm.mk.injEq]
        repeat' apply And.intro
        all_goals first | rfl | omega | decide +kernel | (simp [zb]; done) | (simp [zb]; omega)
      · constructor <;> (try dsimp only) <;> first | omega | decide +kernel | (simp [zb]; done) | (simp [zb]; omega)
    · rw [show bits .or .u8 192 (bits .or .u8 (bitv true 4) (bitv false 2)) = 196 from by decide +kernel]
      refine ⟨?_, ?_⟩
      · unfold askR
        (try dsimp only)
        rw [if_neg (by decide +kernel), if_neg (by decide +kernel), if_neg (by decide +kernel), if_neg (by decide +kernel), if_neg (by decide +kernel)]
        rw [if_pos (by decide +kernel)]
        simp only [rdSize, show bt 196 1 = false from by decide +kernel, show bt 196 2 = false from by decide +kernel, show bt 196 4 = true from by decide +kernel, show bt 196 16 = false from by decide +kernel, show bits .and .u8 (196 / 4) 3 = 1 from by decide +kernel, show bits .and .u8 (196 / 2) 7 = 2 from by decide +kernel, show bits .and .u8 (196 / 4) 7 = 1 from by decide +kernel, Bool.false_eq_true, if_true, if_false, Cm.mk.injEq]
        repeat' apply And.intro
        all_goals first | rfl | omega | decide +kernel | (simp [zb]; done) | (simp [zb]; omega)
      · constructor <;> (try dsimp only) <;> first | omega | decide +kernel | (simp [zb]; done) | (simp [zb]; omega)
  · cases cc
    · rw [show bits .or .u8 192 (bits .or .u8 (bitv false 4) (bitv true 2)) = 194 from by decide +kernel]
      refine ⟨?_, ?_⟩
      · unfold askR
        (try dsimp only)
        rw [if_neg (by decide +kernel), if_neg (by decide +kernel), if_neg (by decide +kernel), if_neg (by decide +kernel), if_neg (by decide +kernel)]
        rw [if_pos (by decide +kernel)]
        simp only [rdSize, show bt 194 1 = false from by decide +kernel, show bt 194 2 = true from by decide +kernel, show bt 194 4 = false from by decide +kernel, show bt 194 16 = false from by decide +kernel, show bits .and .u8 (194 / 4) 3 = 0 from by decide +kernel, show bits .and .u8 (194 / 2) 7 = 1 from by decide +kernel, show bits .and .u8 (194 / 4) 7 = 0 from by decide +kernel, Bool.false_eq_true, if_true, if_false, Cm.mk.injEq]
        repeat' apply And.intro
        all_goals first | rfl | omega | decide +kernel | (simp [zb]; done) | (simp [zb]; omega)
      · constructor <;> (try dsimp only) <;> first | omega | decide +kernel | (simp [zb]; done) | (simp [zb]; omega)
    · rw [show bits .or .u8 192 (bits .or .u8 (bitv true 4) (bitv true 2)) = 198 from by decide +kernel]
      refine ⟨?_, ?_⟩
      · unfold askR
        (try dsimp only)
        rw [if_neg (by decide +kernel), if_neg (by decide +kernel), if_neg (by decide +kernel), if_neg (by decide +kernel), if_neg (by decide +kernel)]
        rw [if_pos (by decide +kernel)]
        simp only [rdSize, show bt 198 1 = false from by decide +kernel, show bt 198 2 = true from by decide +kernel, show bt 198 4 = true from by decide +kernel, show bt 198 16 = false from by decide +kernel, show bits .and .u8 (198 / 4) 3 = 1 from by decide +kernel, show bits .and .u8 (198 / 2) 7 = 3 from by decide +kernel, show bits .and .u8 (198 / 4) 7 = 1 from by decide +kernel, Bool.false_eq_true, if_true, if_false, Cm.mk.injEq]
        repeat' apply And.intro
        all_goals first | rfl | omega | decide +kernel | (simp [zb]; done) | (simp [zb]; omega)
      · constructor <;> (try dsimp only) <;> first | omega | decide +kernel | (simp [zb]; done) | (simp [zb]; omega)
set_option linter.unusedSimpArgs false in
set_option maxHeartbeats 4000000 in
theorem ask_back7 (c : Cm) (ok : c.Ok) (x : B8) (hkk : c.k = 7) (h : wEnd 193 c = some x) : askR x = c ∧ x.Ok := by
  unfold wEnd at h
  split at h
  rotate_left
  · cases h
  rename_i hk
  simp only [Bool.and_eq_true, decide_eq_true_eq] at hk
  obtain ⟨hk, hm1, hm2⟩ := hk
  have hc := (only_3072 _).1 hk
  simp only [Option.some.injEq] at h
  subst h
  obtain ⟨k, i, s, z, n, q, d, t, l, cc, b, e, u, m, o⟩ := c
  obtain ⟨_, ⟨hi1, hi2⟩, ⟨hs1, hs2⟩, ⟨hn1, hn2⟩, hd, _, _, ⟨hu1, hu2⟩, _, ⟨ho1, ho2⟩⟩ := ok
  simp only [Cm.mk.injEq] at hc
  obtain ⟨_, e1, e2, e3, e4, e5, e6, e7, e8, e9, e10, e11, e12, e13, e14⟩ := hc
  subst hkk
  dsimp only at *
  subst e1 e2 e3 e4 e5 e6 e7 e8 e9 e10 e11 e14
  have h9 : m = 0 ∨ m = 1 ∨ m = 2 ∨ m = 3 ∨ m = 4 ∨ m = 5 ∨ m = 6 ∨ m = 7 := by omega
  rcases h9 with rfl | rfl | rfl | rfl | rfl | rfl | rfl | rfl
  · rw [show bits .or .u8 193 (0 * 4) = 193 from by decide +kernel]
    refine ⟨?_, ?_⟩
    · unfold askR
      (try dsimp only)
      rw [if_neg (by decide +kernel), if_neg (by decide +kernel), if_neg (by decide +kernel), if_neg (by decide +kernel), if_neg (by decide +kernel), if_neg (by decide +kernel)]
      rw [if_pos (by decide +kernel)]
      simp only [rdEnd, show bt 193 1 = true from by decide +kernel, show bt 193 2 = false from by decide +kernel, show bt 193 4 = false from by decide +kernel, show bt 193 16 = false from by decide +kernel, show bits .and .u8 (193 / 4) 3 = 0 from by decide +kernel, show bits .and .u8 (193 / 2) 7 = 0 from by decide +kernel, show bits .and .u8 (193 / 4) 7 = 0 from by decide +kernel, Bool.false_eq_true, if_true, if_false, Cm.mk.injEq]
      repeat' apply And.intro
      all_goals first | rfl | omega | decide +kernel | (simp [zb]; done) | (simp [zb]; omega)
    · constructor <;> (try dsimp only) <;> first | omega | decide +kernel | (simp [zb]; done) | (simp [zb]; omega)
  · rw [show bits .or .u8 193 (1 * 4) = 197 from by decide +kernel]
    refine ⟨?_, ?_⟩
    · unfold askR
      (try dsimp only)
      rw [if_neg (by decide +kernel), if_neg (by decide +kernel), if_neg (by decide +kernel), if_neg (by decide +kernel), if_neg (by decide +kernel), if_neg (by decide +kernel)]
      rw [if_pos (by decide +kernel)]
      simp only [rdEnd, show bt 197 1 = true from by decide +kernel, show bt 197 2 = false from by decide +kernel, show bt 197 4 = true from by decide +kernel, show bt 197 16 = false from by decide +kernel, show bits .and .u8 (197 / 4) 3 = 1 from by decide +kernel, show bits .and .u8 (197 / 2) 7 = 2 from by decide +kernel, show bits .and .u8 (197 / 4) 7 = 1 from by decide +kernel, Bool.false_eq_true, if_true, if_false, Cm.mk.injEq]
      repeat' apply And.intro
      all_goals first | rfl | omega | decide +kernel | (simp [zb]; done) | (simp [zb]; omega)
    · constructor <;> (try dsimp only) <;> first | omega | decide +kernel | (simp [zb]; done) | (simp [zb]; omega)
  · rw [show bits .or .u8 193 (2 * 4) = 201 from by decide +kernel]
    refine ⟨?_, ?_⟩
    · unfold askR
      (try dsimp only)
      rw [if_neg (by decide +kernel), if_neg (by decide +kernel), if_neg (by decide +kernel), if_neg (by decide +kernel), if_neg (by decide +kernel), if_neg (by decide +kernel)]
      rw [if_pos (by decide +kernel)]
      simp only [rdEnd, show bt 201 1 = true from by decide +kernel, show bt 201 2 = false from by decide +kernel, show bt 201 4 = false from by decide +kernel, show bt 201 16 = false from by decide +kernel, show bits .and .u8 (201 / 4) 3 = 2 from by decide +kernel, show bits .and .u8 (201 / 2) 7 = 4 from by decide +kernel, show bits .and .u8 (201 / 4) 7 = 2 from by decide +kernel, Bool.false_eq_true, if_true, if_false, Cm.mk.injEq]
      repeat' apply And.intro
      all_goals first | rfl | omega | decide +kernel | (simp [zb]; done) | (simp [zb]; omega)
    · constructor <;> (try dsimp only) <;> first | omega | decide +kernel | (simp [zb]; done) | (simp [zb]; omega)
  · rw [show bits .or .u8 193 (3 * 4) = 205 from by decide +kernel]
    refine ⟨?_, ?_⟩
    · unfold askR
      (try dsimp only)
      rw [if_neg (by decide +kernel), if_neg (by decide +kernel), if_neg (by decide +kernel), if_neg (by decide +kernel), if_neg (by decide +kernel), if_neg (by decide +kernel)]
      rw [if_pos (by decide +kernel)]
      simp only [rdEnd, show bt 205 1 = true from by decide +kernel, show bt 205 2 = false from by decide +kernel, show bt 205 4 = true from by decide +kernel, show bt 205 16 = false from by decide +kernel, show bits .and .u8 (205 / 4) 3 = 3 from by decide +kernel, show bits .and .u8 (205 / 2) 7 = 6 from by decide +kernel, show bits .and .u8 (205 / 4) 7 = 3 from by decide +kernel, Bool.false_eq_true, if_true, if_false, Cm.mk.injEq]
      repeat' apply And.intro
      all_goals first | rfl | omega | decide +kernel | (simp [zb]; done) | (simp [zb]; omega)
    · constructor <;> (try dsimp only) <;> first | omega | decide +kernel | (simp [zb]; done) | (simp [zb]; omega)
  · rw [show bits .or .u8 193 (4 * 4) = 209 from by decide +kernel]
    refine ⟨?_, ?_⟩
    · unfold askR
      (try dsimp only)
      rw [if_neg (by decide +kernel), if_neg (by decide +kernel), if_neg (by decide +kernel), if_neg (by decide +kernel), if_neg (by decide +kernel), if_neg (by decide +kernel)]
      rw [if_pos (by decide +kernel)]
      simp only [rdEnd, show bt 209 1 = true from by decide +kernel, show bt 209 2 = false from by decide +kernel, show bt 209 4 = false from by decide +kernel, show bt 209 16 = true from by decide +kernel, show bits .and .u8 (209 / 4) 3 = 0 from by decide +kernel, show bits .and .u8 (209 / 2) 7 = 0 from by decide +kernel, show bits .and .u8 (209 / 4) 7 = 4 from by decide +kernel, Bool.false_eq_true, if_true, if_false, Cm.mk.injEq]
      repeat' apply And.intro
      all_goals first | rfl | omega | decide +kernel | (simp [zb]; done) | (simp [zb]; omega)
    · constructor <;> (try dsimp only) <;> first | omega | decide +kernel | (simp [zb]; done) | (simp [zb]; omega)
  · rw [show bits .or .u8 193 (5 * 4) = 213 from by decide +kernel]
    refine ⟨?_, ?_⟩
    · unfold askR
      (try dsimp only)
      rw [if_neg (by decide +kernel), if_neg (by decide +kernel), if_neg (by decide +kernel), if_neg (by decide +kernel), if_neg (by decide +kernel), if_neg (by decide +kernel)]
      rw [if_pos (by decide +kernel)]
      simp only [rdEnd, show bt 213 1 = true from by decide +kernel, show bt 213 2 = false from by decide +kernel, show bt 213 4 = true from by decide +kernel, show bt 213 16 = true from by decide +kernel, show bits .and .u8 (213 / 4) 3 = 1 from by decide +kernel, show bits .and .u8 (213 / 2) 7 = 2 from by decide +kernel, show bits .and .u8 (213 / 4) 7 = 5 from by decide +kernel, Bool.false_eq_true, if_true, if_false, Cm.mk.injEq]
      repeat' apply And.intro
      all_goals first | rfl | omega | decide +kernel | (simp [zb]; done) | (simp [zb]; omega)
    · constructor <;> (try dsimp only) <;> first | omega | decide +kernel | (simp [zb]; done) | (simp [zb]; omega)
  · rw [show bits .or .u8 193 (6 * 4) = 217 from by decide +kernel]
    refine ⟨?_, ?_⟩
    · unfold askR
      (try dsimp only)
      rw [if_neg (by decide +kernel), if_neg (by decide +kernel), if_neg (by decide +kernel), if_neg (by decide +kernel), if_neg (by decide +kernel), if_neg (by decide +kernel)]
      rw [if_pos (by decide +kernel)]
      simp only [rdEnd, show bt 217 1 = true from by decide +kernel, show bt 217 2 = false from by decide +kernel, show bt 217 4 = false from by decide +kernel, show bt 217 16 = true from by decide +kernel, show bits .and .u8 (217 / 4) 3 = 2 from by decide +kernel, show bits .and .u8 (217 / 2) 7 = 4 from by decide +kernel, show bits .and .u8 (217 / 4) 7 = 6 from by decide +kernel, Bool.false_eq_true, if_true, if_false, Cm.mk.injEq]
      repeat' apply And.intro
      all_goals first | rfl | omega | decide +kernel | (simp [zb]; done) | (simp [zb]; omega)
    · constructor <;> (try dsimp only) <;> first | omega | decide +kernel | (simp [zb]; done) | (simp [zb]; omega)
  · rw [show bits .or .u8 193 (7 * 4) = 221 from by decide +kernel]
    refine ⟨?_, ?_⟩
    · unfold askR
      (try dsimp only)
      rw [if_neg (by decide +kernel), if_neg (by decide +kernel), if_neg (by decide +kernel), if_neg (by decide +kernel), if_neg (by decide +kernel), if_neg (by decide +kernel)]
      rw [if_pos (by decide +kernel)]
      simp only [rdEnd, show bt 221 1 = true from by decide +kernel, show bt 221 2 = false from by decide +kernel, show bt 221 4 = true from by decide +kernel, show bt 221 16 = true from by decide +kernel, show bits .and .u8 (221 / 4) 3 = 3 from by decide +kernel, show bits .and .u8 (221 / 2) 7 = 6 from by decide +kernel, show bits .and .u8 (221 / 4) 7 = 7 from by decide +kernel, Bool.false_eq_true, if_true, if_false, Cm.mk.injEq]
      repeat' apply And.intro
      all_goals first | rfl | omega | decide +kernel | (simp [zb]; done) | (simp [zb]; omega)
    · constructor <;> (try dsimp only) <;> first | omega | decide +kernel | (simp [zb]; done) | (simp [zb]; omega)
set_option linter.unusedSimpArgs false in
set_option maxHeartbeats 4000000 in
theorem ask_back8 (c : Cm) (ok : c.Ok) (x : B8) (hkk : c.k = 8) (h : wBlock 160 c = some x) : askR x = c ∧ x.Ok := by
  unfold wBlock at h
  split at h
  rotate_left
  · cases h
  rename_i hk
  simp only [Bool.and_eq_true, decide_eq_true_eq] at hk
  obtain ⟨hk, hm1, hm2⟩ := hk
  have hc := (only_385 _).1 hk
  simp only [Option.some.injEq] at h
  subst h
  obtain ⟨k, i, s, z, n, q, d, t, l, cc, b, e, u, m, o⟩ := c
  obtain ⟨_, ⟨hi1, hi2⟩, ⟨hs1, hs2⟩, ⟨hn1, hn2⟩, hd, _, _, ⟨hu1, hu2⟩, _, ⟨ho1, ho2⟩⟩ := ok
  simp only [Cm.mk.injEq] at hc
  obtain ⟨_, e1, e2, e3, e4, e5, e6, e7, e8, e9, e10, e11, e12, e13, e14⟩ := hc
  subst hkk
  dsimp only at *
  subst e3 e4 e5 e6 e7 e8 e11 e12 e13 e14
  cases cc
  · rw [show bits .or .u8 160 (bitv false 4) = 160 from by decide +kernel]
    refine ⟨?_, ?_⟩
    · unfold askR
      (try dsimp only)
      rw [if_neg (by decide +kernel), if_neg (by decide +kernel), if_neg (by decide +kernel), if_neg (by decide +kernel), if_neg (by decide +kernel), if_neg (by decide +kernel), if_neg (by decide +kernel)]
      rw [if_pos (by decide +kernel)]
      simp only [rdBlock, show bt 160 1 = false from by decide +kernel, show bt 160 2 = false from by decide +kernel, show bt 160 4 = false from by decide +kernel, show bt 160 16 = false from by decide +kernel, show bits .and .u8 (160 / 4) 3 = 0 from by decide +kernel, show bits .and .u8 (160 / 2) 7 = 0 from by decide +kernel, show bits .and .u8 (160 / 4) 7 = 0 from by decide +kernel, Bool.false_eq_true, if_true, if_false, Cm.mk.injEq]
      repeat' apply And.intro
      all_goals first | rfl | omega | decide +kernel | (simp [zb]; done) | (simp [zb]; omega)
    · constructor <;> (try dsimp only) <;> first | omega | decide +kernel | (simp [zb]; done) | (simp [zb]; omega)
  · rw [show bits .or .u8 160 (bitv true 4) = 164 from by decide +kernel]
    refine ⟨?_, ?_⟩
    · unfold askR
      (try dsimp only)
      rw [if_neg (by decide +kernel), if_neg (by decide +kernel), if_neg (by decide +kernel), if_neg (by decide +kernel), if_neg (by decide +kernel), if_neg (by decide +kernel), if_neg (by decide +kernel)]
      rw [if_pos (by decide +kernel)]
      simp only [rdBlock, show bt 164 1 = false from by decide +kernel, show bt 164 2 = false from by decide +kernel, show bt 164 4 = true from by decide +kernel, show bt 164 16 = false from by decide +kernel, show bits .and .u8 (164 / 4) 3 = 1 from by decide +kernel, show bits .and .u8 (164 / 2) 7 = 2 from by decide +kernel, show bits .and .u8 (164 / 4) 7 = 1 from by decide +kernel, Bool.false_eq_true, if_true, if_false, Cm.mk.injEq]
      repeat' apply And.intro
      all_goals first | rfl | omega | decide +kernel | (simp [zb]; done) | (simp [zb]; omega)
    · constructor <;> (try dsimp only) <;> first | omega | decide +kernel | (simp [zb]; done) | (simp [zb]; omega)
set_option linter.unusedSimpArgs false in
set_option maxHeartbeats 4000000 in
theorem ask_back9 (c : Cm) (ok : c.Ok) (x : B8) (hkk : c.k = 9) (h : wBare 163 c = some x) : askR x = c ∧ x.Ok := by
  unfold wBare at h
  split at h
  rotate_left
  · cases h
  rename_i hk
  have hc := (only_0 _).1 hk
  simp only [Option.some.injEq] at h
  subst h
  obtain ⟨k, i, s, z, n, q, d, t, l, cc, b, e, u, m, o⟩ := c
  obtain ⟨_, ⟨hi1, hi2⟩, ⟨hs1, hs2⟩, ⟨hn1, hn2⟩, hd, _, _, ⟨hu1, hu2⟩, _, ⟨ho1, ho2⟩⟩ := ok
  simp only [Cm.mk.injEq] at hc
  obtain ⟨_, e1, e2, e3, e4, e5, e6, e7, e8, e9, e10, e11, e12, e13, e14⟩ := hc
  subst hkk
  dsimp only at *
  subst e1 e2 e3 e4 e5 e6 e7 e8 e9 e10 e11 e12 e13 e14
  refine ⟨?_, ?_⟩
  · unfold askR
    (try dsimp only)
    rw [if_neg (by decide +kernel), if_neg (by decide +kernel), if_neg (by decide +kernel), if_neg (by decide +kernel), if_neg (by decide +kernel), if_neg (by decide +kernel), if_neg (by decide +kernel), if_neg (by decide +kernel)]
    rw [if_pos (by decide +kernel)]
    simp only [rdBare, show bt 163 1 = true from by decide +kernel, show bt 163 2 = true from by decide +kernel, show bt 163 4 = false from by decide +kernel, show bt 163 16 = false from by decide +kernel, show bits .and .u8 (163 / 4) 3 = 0 from by decide +kernel, show bits .and .u8 (163 / 2) 7 = 1 from by decide +kernel, show bits .and .u8 (163 / 4) 7 = 0 from by decide +kernel, Bool.false_eq_true, if_true, if_false, Cm.mk.injEq]
    repeat' apply And.intro
    all_goals first | rfl | omega | decide +kernel | (simp [zb]; done) | (simp [zb]; omega)
  · constructor <;> (try dsimp only) <;> first | omega | decide +kernel | (simp [zb]; done) | (simp [zb]; omega)
set_option linter.unusedSimpArgs false in
set_option maxHeartbeats 4000000 in
theorem ask_back10 (c : Cm) (ok : c.Ok) (x : B8) (hkk : c.k = 10) (h : wAck 162 c = some x) : askR x = c ∧ x.Ok := by
  unfold wAck at h
  split at h
  rotate_left
  · cases h
  rename_i hk
  simp only [Bool.and_eq_true, decide_eq_true_eq] at hk
  obtain ⟨hk, ⟨hm1, hm2⟩, hm3, hm4⟩ := hk
  have hc := (only_768 _).1 hk
  simp only [Option.some.injEq] at h
  subst h
  obtain ⟨k, i, s, z, n, q, d, t, l, cc, b, e, u, m, o⟩ := c
  obtain ⟨_, ⟨hi1, hi2⟩, ⟨hs1, hs2⟩, ⟨hn1, hn2⟩, hd, _, _, ⟨hu1, hu2⟩, _, ⟨ho1, ho2⟩⟩ := ok
  simp only [Cm.mk.injEq] at hc
  obtain ⟨_, e1, e2, e3, e4, e5, e6, e7, e8, e9, e10, e11, e12, e13, e14⟩ := hc
  subst hkk
  dsimp only at *
  subst e1 e2 e3 e4 e5 e6 e7 e8 e9 e12 e13 e14
  refine ⟨?_, ?_⟩
  · unfold askR
    (try dsimp only)
    rw [if_neg (by decide +kernel), if_neg (by decide +kernel), if_neg (by decide +kernel), if_neg (by decide +kernel), if_neg (by decide +kernel), if_neg (by decide +kernel), if_neg (by decide +kernel), if_neg (by decide +kernel), if_neg (by decide +kernel)]
    rw [if_pos (by decide +kernel)]
    simp only [rdAck, show bt 162 1 = false from by decide +kernel, show bt 162 2 = true from by decide +kernel, show bt 162 4 = false from by decide +kernel, show bt 162 16 = false from by decide +kernel, show bits .and .u8 (162 / 4) 3 = 0 from by decide +kernel, show bits .and .u8 (162 / 2) 7 = 1 from by decide +kernel, show bits .and .u8 (162 / 4) 7 = 0 from by decide +kernel, Bool.false_eq_true, if_true, if_false, Cm.mk.injEq]
    repeat' apply And.intro
    all_goals first | rfl | omega | decide +kernel | (simp [zb]; done) | (simp [zb]; omega)
  · constructor <;> (try dsimp only) <;> first | omega | decide +kernel | (simp [zb]; done) | (simp [zb]; omega)
set_option linter.unusedSimpArgs false in
set_option maxHeartbeats 4000000 in
theorem ask_back11 (c : Cm) (ok : c.Ok) (x : B8) (hkk : c.k = 11) (h : wBare 161 c = some x) : askR x = c ∧ x.Ok := by
  unfold wBare at h
  split at h
  rotate_left
  · cases h
  rename_i hk
  have hc := (only_0 _).1 hk
  simp only [Option.some.injEq] at h
  subst h
  obtain ⟨k, i, s, z, n, q, d, t, l, cc, b, e, u, m, o⟩ := c
  obtain ⟨_, ⟨hi1, hi2⟩, ⟨hs1, hs2⟩, ⟨hn1, hn2⟩, hd, _, _, ⟨hu1, hu2⟩, _, ⟨ho1, ho2⟩⟩ := ok
  simp only [Cm.mk.injEq] at hc
  obtain ⟨_, e1, e2, e3, e4, e5, e6, e7, e8, e9, e10, e11, e12, e13, e14⟩ := hc
  subst hkk
  dsimp only at *
  subst e1 e2 e3 e4 e5 e6 e7 e8 e9 e10 e11 e12 e13 e14
  refine ⟨?_, ?_⟩
  · unfold askR
    (try dsimp only)
    rw [if_neg (by decide +kernel), if_neg (by decide +kernel), if_neg (by decide +kernel), if_neg (by decide +kernel), if_neg (by decide +kernel), if_neg (by decide +kernel), if_neg (by decide +kernel), if_neg (by decide +kernel), if_neg (by decide +kernel), if_neg (by decide +kernel)]
    rw [if_pos (by decide +kernel)]
    simp only [rdBare, show bt 161 1 = true from by decide +kernel, show bt 161 2 = false from by decide +kernel, show bt 161 4 = false from by decide +kernel, show bt 161 16 = false from by decide +kernel, show bits .and .u8 (161 / 4) 3 = 0 from by decide +kernel, show bits .and .u8 (161 / 2) 7 = 0 from by decide +kernel, show bits .and .u8 (161 / 4) 7 = 0 from by decide +kernel, Bool.false_eq_true, if_true, if_false, Cm.mk.injEq]
    repeat' apply And.intro
    all_goals first | rfl | omega | decide +kernel | (simp [zb]; done) | (simp [zb]; omega)
  · constructor <;> (try dsimp only) <;> first | omega | decide +kernel | (simp [zb]; done) | (simp [zb]; omega)
theorem ask_back (c : Cm) (ok : c.Ok) (x : B8) (h : askP c = some x) : askR x = c ∧ x.Ok := by
  unfold askP at h
  by_cases h1 : c.k = 1
  · rw [if_pos h1] at h; exact ask_back1 c ok x h1 h
  rw [if_neg h1] at h
  by_cases h2 : c.k = 2
  · rw [if_pos h2] at h; exact ask_back2 c ok x h2 h
  rw [if_neg h2] at h
  by_cases h3 : c.k = 3
  · rw [if_pos h3] at h; exact ask_back3 c ok x h3 h
  rw [if_neg h3] at h
  by_cases h4 : c.k = 4
  · rw [if_pos h4] at h; exact ask_back4 c ok x h4 h
  rw [if_neg h4] at h
  by_cases h5 : c.k = 5
  · rw [if_pos h5] at h; exact ask_back5 c ok x h5 h
  rw [if_neg h5] at h
  by_cases h6 : c.k = 6
  · rw [if_pos h6] at h; exact ask_back6 c ok x h6 h
  rw [if_neg h6] at h
  by_cases h7 : c.k = 7
  · rw [if_pos h7] at h; exact ask_back7 c ok x h7 h
  rw [if_neg h7] at h
  by_cases h8 : c.k = 8
  · rw [if_pos h8] at h; exact ask_back8 c ok x h8 h
  rw [if_neg h8] at h
  by_cases h9 : c.k = 9
  · rw [if_pos h9] at h; exact ask_back9 c ok x h9 h
  rw [if_neg h9] at h
  by_cases h10 : c.k = 10
  · rw [if_pos h10] at h; exact ask_back10 c ok x h10 h
  rw [if_neg h10] at h
  by_cases h11 : c.k = 11
  · rw [if_pos h11] at h; exact ask_back11 c ok x h11 h
  rw [if_neg h11] at h
  cases h
#print axioms ask_back
end Go.Proofs.Ytlnlejdjekbipaa
namespace Go.Proofs.Ytlnlejdjekbipaa
open Go.RowKit

set_option linter.unusedSimpArgs false in
set_option maxHeartbeats 4000000 in
theorem ans_back1 (c : Cm) (ok : c.Ok) (x : B8) (hkk : c.k = 1) (h : wPlace 96 c = some x) : ansR x = c ∧ x.Ok := by
  unfold wPlace at h
  split at h
  rotate_left
  · cases h
  rename_i hk
  have hc := (only_1 _).1 hk
  simp only [Option.some.injEq] at h
  subst h
  obtain ⟨k, i, s, z, n, q, d, t, l, cc, b, e, u, m, o⟩ := c
  obtain ⟨_, ⟨hi1, hi2⟩, ⟨hs1, hs2⟩, ⟨hn1, hn2⟩, hd, _, _, ⟨hu1, hu2⟩, _, ⟨ho1, ho2⟩⟩ := ok
  simp only [Cm.mk.injEq] at hc
  obtain ⟨_, e1, e2, e3, e4, e5, e6, e7, e8, e9, e10, e11, e12, e13, e14⟩ := hc
  subst hkk
  dsimp only at *
  subst e3 e4 e5 e6 e7 e8 e9 e10 e11 e12 e13 e14
  refine ⟨?_, ?_⟩
  · unfold ansR
    (try dsimp only)
    rw [if_pos (by decide +kernel)]
    simp only [rdPlace, show bt 96 1 = false from by decide +kernel, show bt 96 2 = false from by decide +kernel, show bt 96 4 = false from by decide +kernel, show bt 96 16 = false from by decide +kernel, show bits .and .u8 (96 / 4) 3 = 0 from by decide +kernel, show bits .and .u8 (96 / 2) 7 = 0 from by decide +kernel, show bits .and .u8 (96 / 4) 7 = 0 from by decide +kernel, Bool.false_eq_true, if_true, if_false, Cm.mk.injEq]
    repeat' apply And.intro
    all_goals first | rfl | omega | decide +kernel | (simp [zb]; done) | (simp [zb]; omega)
  · constructor <;> (try dsimp only) <;> first | omega | decide +kernel | (simp [zb]; done) | (simp [zb]; omega)
set_option linter.unusedSimpArgs false in
set_option maxHeartbeats 4000000 in
theorem ans_back2 (c : Cm) (ok : c.Ok) (x : B8) (hkk : c.k = 2) (h : wToggle 32 c = some x) : ansR x = c ∧ x.Ok := by
  unfold wToggle at h
  split at h
  rotate_left
  · cases h
  rename_i hk
  have hc := (only_32 _).1 hk
  simp only [Option.some.injEq] at h
  subst h
  obtain ⟨k, i, s, z, n, q, d, t, l, cc, b, e, u, m, o⟩ := c
  obtain ⟨_, ⟨hi1, hi2⟩, ⟨hs1, hs2⟩, ⟨hn1, hn2⟩, hd, _, _, ⟨hu1, hu2⟩, _, ⟨ho1, ho2⟩⟩ := ok
  simp only [Cm.mk.injEq] at hc
  obtain ⟨_, e1, e2, e3, e4, e5, e6, e7, e8, e9, e10, e11, e12, e13, e14⟩ := hc
  subst hkk
  dsimp only at *
  subst e1 e2 e3 e4 e5 e6 e8 e9 e10 e11 e12 e13 e14
  cases t
  · rw [show bits .or .u8 32 (bitv false 16) = 32 from by decide +kernel]
    refine ⟨?_, ?_⟩
    · unfold ansR
      (try dsimp only)
      rw [if_neg (by decide +kernel)]
      rw [if_pos (by decide +kernel)]
      simp only [rdToggle, show bt 32 1 = false from by decide +kernel, show bt 32 2 = false from by decide +kernel, show bt 32 4 = false from by decide +kernel, show bt 32 16 = false from by decide +kernel, show bits .and .u8 (32 / 4) 3 = 0 from by decide +kernel, show bits .and .u8 (32 / 2) 7 = 0 from by decide +kernel, show bits .and .u8 (32 / 4) 7 = 0 from by decide +kernel, Bool.false_eq_true, if_true, if_false, Cm.mk.injEq]
      repeat' apply And.intro
      all_goals first | rfl | omega | decide +kernel | (simp [zb]; done) | (simp [zb]; omega)
    · constructor <;> (try dsimp only) <;> first | omega | decide +kernel | (simp [zb]; done) | (simp [zb]; omega)
  · rw [show bits .or .u8 32 (bitv true 16) = 48 from by decide +kernel]
    refine ⟨?_, ?_⟩
    · unfold ansR
      (try dsimp only)
      rw [if_neg (by decide +kernel)]
      rw [if_pos (by decide +kernel)]
      simp only [rdToggle, show bt 48 1 = false from by decide +kernel, show bt 48 2 = false from by decide +kernel, show bt 48 4 = false from by decide +kernel, show bt 48 16 = true from by decide +kernel, show bits .and .u8 (48 / 4) 3 = 0 from by decide +kernel, show bits .and .u8 (48 / 2) 7 = 0 from by decide +kernel, show bits .and .u8 (48 / 4) 7 = 4 from by decide +kernel, Bool.false_eq_true, if_true, if_false, Cm.mk.injEq]
      repeat' apply And.intro
      all_goals first | rfl | omega | decide +kernel | (simp [zb]; done) | (simp [zb]; omega)
    · constructor <;> (try dsimp only) <;> first | omega | decide +kernel | (simp [zb]; done) | (simp [zb]; omega)
set_option linter.unusedSimpArgs false in
set_option maxHeartbeats 4000000 in
theorem ans_back3 (c : Cm) (ok : c.Ok) (x : B8) (hkk : c.k = 3) (h : wBegin 64 c = some x) : ansR x = c ∧ x.Ok := by
  unfold wBegin at h
  split at h
  · rename_i hq
    split at h
    rotate_left
    · cases h
    rename_i hk
    simp only [Bool.and_eq_true] at hk
    obtain ⟨hk, hm1⟩ := hk
    have hc := (only_27 _).1 hk
    simp only [Option.some.injEq] at h
    subst h
    obtain ⟨k, i, s, z, n, q, d, t, l, cc, b, e, u, m, o⟩ := c
    obtain ⟨_, ⟨hi1, hi2⟩, ⟨hs1, hs2⟩, ⟨hn1, hn2⟩, hd, _, _, ⟨hu1, hu2⟩, _, ⟨ho1, ho2⟩⟩ := ok
    simp only [Cm.mk.injEq] at hc
    obtain ⟨_, e1, e2, e3, e4, e5, e6, e7, e8, e9, e10, e11, e12, e13, e14⟩ := hc
    subst hkk
    dsimp only at *
    subst hq e4 e7 e8 e9 e10 e11 e12 e13 e14
    have h4 : d.length ≤ 4 ∧ 1 ≤ d.length := by
      simp [quickOk] at hm1
      omega
    match d, h4 with
    | [], h9 => exact absurd h9.2 (by simp)
    | x0 :: x1 :: x2 :: x3 :: x4 :: r, h9 => exact absurd h9.1 (by simp)
    | [x0], _ =>
      have g0 := hd x0 (by simp)
      cases z
      · simp [quickOk] at hm1
      rw [show q0 64 true [x0].length = 79 from by show q0 64 true 1 = 79; decide +kernel]
      refine ⟨?_, ?_⟩
      · unfold ansR
        (try dsimp only)
        rw [if_neg (by decide +kernel), if_neg (by decide +kernel)]
        rw [if_pos (by decide +kernel)]
        simp only [rdBegin, show bt 79 1 = true from by decide +kernel, show bt 79 2 = true from by decide +kernel, show bt 79 4 = true from by decide +kernel, show bt 79 16 = false from by decide +kernel, show bits .and .u8 (79 / 4) 3 = 3 from by decide +kernel, show bits .and .u8 (79 / 2) 7 = 7 from by decide +kernel, show bits .and .u8 (79 / 4) 7 = 3 from by decide +kernel, Bool.false_eq_true, if_true, if_false, Cm.mk.injEq]
        repeat' apply And.intro
        all_goals first | rfl | omega | decide +kernel | (simp [zb]; done) | (simp [zb]; omega)
      · constructor <;> (try dsimp only) <;> first | omega | decide +kernel | (simp [zb]; done) | (simp [zb]; omega)
    | [x0, x1], _ =>
      have g0 := hd x0 (by simp)
      have g1 := hd x1 (by simp)
      cases z
      · simp [quickOk] at hm1
      rw [show q0 64 true [x0, x1].length = 75 from by show q0 64 true 2 = 75; decide +kernel]
      refine ⟨?_, ?_⟩
      · unfold ansR
        (try dsimp only)
        rw [if_neg (by decide +kernel), if_neg (by decide +kernel)]
        rw [if_pos (by decide +kernel)]
        simp only [rdBegin, show bt 75 1 = true from by decide +kernel, show bt 75 2 = true from by decide +kernel, show bt 75 4 = false from by decide +kernel, show bt 75 16 = false from by decide +kernel, show bits .and .u8 (75 / 4) 3 = 2 from by decide +kernel, show bits .and .u8 (75 / 2) 7 = 5 from by decide +kernel, show bits .and .u8 (75 / 4) 7 = 2 from by decide +kernel, Bool.false_eq_true, if_true, if_false, Cm.mk.injEq]
        repeat' apply And.intro
        all_goals first | rfl | omega | decide +kernel | (simp [zb]; done) | (simp [zb]; omega)
      · constructor <;> (try dsimp only) <;> first | omega | decide +kernel | (simp [zb]; done) | (simp [zb]; omega)
    | [x0, x1, x2], _ =>
      have g0 := hd x0 (by simp)
      have g1 := hd x1 (by simp)
      have g2 := hd x2 (by simp)
      cases z
      · simp [quickOk] at hm1
      rw [show q0 64 true [x0, x1, x2].length = 71 from by show q0 64 true 3 = 71; decide +kernel]
      refine ⟨?_, ?_⟩
      · unfold ansR
        (try dsimp only)
        rw [if_neg (by decide +kernel), if_neg (by decide +kernel)]
        rw [if_pos (by decide +kernel)]
        simp only [rdBegin, show bt 71 1 = true from by decide +kernel, show bt 71 2 = true from by decide +kernel, show bt 71 4 = true from by decide +kernel, show bt 71 16 = false from by decide +kernel, show bits .and .u8 (71 / 4) 3 = 1 from by decide +kernel, show bits .and .u8 (71 / 2) 7 = 3 from by decide +kernel, show bits .and .u8 (71 / 4) 7 = 1 from by decide +kernel, Bool.false_eq_true, if_true, if_false, Cm.mk.injEq]
        repeat' apply And.intro
        all_goals first | rfl | omega | decide +kernel | (simp [zb]; done) | (simp [zb]; omega)
      · constructor <;> (try dsimp only) <;> first | omega | decide +kernel | (simp [zb]; done) | (simp [zb]; omega)
    | [x0, x1, x2, x3], _ =>
      have g0 := hd x0 (by simp)
      have g1 := hd x1 (by simp)
      have g2 := hd x2 (by simp)
      have g3 := hd x3 (by simp)
      cases z
      · rw [show q0 64 false [x0, x1, x2, x3].length = 66 from by show q0 64 false 4 = 66; decide +kernel]
        refine ⟨?_, ?_⟩
        · unfold ansR
          (try dsimp only)
          rw [if_neg (by decide +kernel), if_neg (by decide +kernel)]
          rw [if_pos (by decide +kernel)]
          simp only [rdBegin, show bt 66 1 = false from by decide +kernel, show bt 66 2 = true from by decide +kernel, show bt 66 4 = false from by decide +kernel, show bt 66 16 = false from by decide +kernel, show bits .and .u8 (66 / 4) 3 = 0 from by decide +kernel, show bits .and .u8 (66 / 2) 7 = 1 from by decide +kernel, show bits .and .u8 (66 / 4) 7 = 0 from by decide +kernel, Bool.false_eq_true, if_true, if_false, Cm.mk.injEq]
          repeat' apply And.intro
          all_goals first | rfl | omega | decide +kernel | (simp [zb]; done) | (simp [zb]; omega)
        · constructor <;> (try dsimp only) <;> first | omega | decide +kernel | (simp [zb]; done) | (simp [zb]; omega)
      · rw [show q0 64 true [x0, x1, x2, x3].length = 67 from by show q0 64 true 4 = 67; decide +kernel]
        refine ⟨?_, ?_⟩
        · unfold ansR
          (try dsimp only)
          rw [if_neg (by decide +kernel), if_neg (by decide +kernel)]
          rw [if_pos (by decide +kernel)]
          simp only [rdBegin, show bt 67 1 = true from by decide +kernel, show bt 67 2 = true from by decide +kernel, show bt 67 4 = false from by decide +kernel, show bt 67 16 = false from by decide +kernel, show bits .and .u8 (67 / 4) 3 = 0 from by decide +kernel, show bits .and .u8 (67 / 2) 7 = 1 from by decide +kernel, show bits .and .u8 (67 / 4) 7 = 0 from by decide +kernel, Bool.false_eq_true, if_true, if_false, Cm.mk.injEq]
          repeat' apply And.intro
          all_goals first | rfl | omega | decide +kernel | (simp [zb]; done) | (simp [zb]; omega)
        · constructor <;> (try dsimp only) <;> first | omega | decide +kernel | (simp [zb]; done) | (simp [zb]; omega)
  · rename_i hq
    split at h
    rotate_left
    · cases h
    rename_i hk
    simp only [Bool.and_eq_true, Bool.or_eq_true, beq_iff_eq] at hk
    obtain ⟨hk, hm1⟩ := hk
    have hc := (only_7 _).1 hk
    simp only [Option.some.injEq] at h
    subst h
    obtain ⟨k, i, s, z, n, q, d, t, l, cc, b, e, u, m, o⟩ := c
    obtain ⟨_, ⟨hi1, hi2⟩, ⟨hs1, hs2⟩, ⟨hn1, hn2⟩, hd, _, _, ⟨hu1, hu2⟩, _, ⟨ho1, ho2⟩⟩ := ok
    simp only [Cm.mk.injEq] at hc
    obtain ⟨_, e1, e2, e3, e4, e5, e6, e7, e8, e9, e10, e11, e12, e13, e14⟩ := hc
    subst hkk
    dsimp only at *
    subst e5 e6 e7 e8 e9 e10 e11 e12 e13 e14
    cases z
    · obtain rfl : n = 0 := by simpa using hm1
      rw [show bits .or .u8 64 (bitv false 1) = 64 from by decide +kernel]
      refine ⟨?_, ?_⟩
      · unfold ansR
        (try dsimp only)
        rw [if_neg (by decide +kernel), if_neg (by decide +kernel)]
        rw [if_pos (by decide +kernel)]
        simp only [rdBegin, show bt 64 1 = false from by decide +kernel, show bt 64 2 = false from by decide +kernel, show bt 64 4 = false from by decide +kernel, show bt 64 16 = false from by decide +kernel, show bits .and .u8 (64 / 4) 3 = 0 from by decide +kernel, show bits .and .u8 (64 / 2) 7 = 0 from by decide +kernel, show bits .and .u8 (64 / 4) 7 = 0 from by decide +kernel, Bool.false_eq_true, if_true, if_false, Cm.mk.injEq]
        repeat' apply And.intro
        all_goals first | rfl | omega | decide +kernel | (simp [zb]; done) | (simp [zb]; omega)
      · constructor <;> (try dsimp only) <;> first | omega | decide +kernel | (simp [zb]; done) | (simp [zb]; omega)
    · rw [show bits .or .u8 64 (bitv true 1) = 65 from by decide +kernel]
      refine ⟨?_, ?_⟩
      · unfold ansR
        (try dsimp only)
        rw [if_neg (by decide +kernel), if_neg (by decide +kernel)]
        rw [if_pos (by decide +kernel)]
        simp only [rdBegin, show bt 65 1 = true from by decide +kernel, show bt 65 2 = false from by decide +kernel, show bt 65 4 = false from by decide +kernel, show bt 65 16 = false from by decide +kernel, show bits .and .u8 (65 / 4) 3 = 0 from by decide +kernel, show bits .and .u8 (65 / 2) 7 = 0 from by decide +kernel, show bits .and .u8 (65 / 4) 7 = 0 from by decide +kernel, Bool.false_eq_true, if_true, if_false, Cm.mk.injEq]
        repeat' apply And.intro
        all_goals first | rfl | omega | decide +kernel | (simp [zb]; done) | (simp [zb]; omega)
      · constructor <;> (try dsimp only) <;> first | omega | decide +kernel | (simp [zb]; done) | (simp [zb]; omega)
set_option linter.unusedSimpArgs false in
set_option maxHeartbeats 4000000 in
theorem ans_back4 (c : Cm) (ok : c.Ok) (x : B8) (hkk : c.k = 4) (h : wPart 0 c = some x) : ansR x = c ∧ x.Ok := by
  unfold wPart at h
  split at h
  rotate_left
  · cases h
  rename_i hk
  simp only [Bool.and_eq_true] at hk
  obtain ⟨hk, hm1⟩ := hk
  have hc := (only_112 _).1 hk
  simp only [Option.some.injEq] at h
  subst h
  obtain ⟨k, i, s, z, n, q, d, t, l, cc, b, e, u, m, o⟩ := c
  obtain ⟨_, ⟨hi1, hi2⟩, ⟨hs1, hs2⟩, ⟨hn1, hn2⟩, hd, _, _, ⟨hu1, hu2⟩, _, ⟨ho1, ho2⟩⟩ := ok
  simp only [Cm.mk.injEq] at hc
  obtain ⟨_, e1, e2, e3, e4, e5, e6, e7, e8, e9, e10, e11, e12, e13, e14⟩ := hc
  subst hkk
  dsimp only at *
  subst e1 e2 e3 e4 e5 e9 e10 e11 e12 e13 e14
  have h7 : d.length ≤ 7 := by
    simp only [fits, Bool.or_eq_true, beq_iff_eq, Bool.and_eq_true, decide_eq_true_eq] at hm1
    omega
  match d, h7 with
  | [], _ =>
    cases l
    · simp [fits] at hm1
    cases t
    · rw [show p0 0 false true [].length = 15 from by show p0 0 false true 0 = 15; decide +kernel]
      refine ⟨?_, ?_⟩
      · unfold ansR
        (try dsimp only)
        rw [if_neg (by decide +kernel), if_neg (by decide +kernel), if_neg (by decide +kernel)]
        rw [if_pos (by decide +kernel)]
        simp only [rdPart, show bt 15 1 = true from by decide +kernel, show bt 15 2 = true from by decide +kernel, show bt 15 4 = true from by decide +kernel, show bt 15 16 = false from by decide +kernel, show bits .and .u8 (15 / 4) 3 = 3 from by decide +kernel, show bits .and .u8 (15 / 2) 7 = 7 from by decide +kernel, show bits .and .u8 (15 / 4) 7 = 3 from by decide +kernel, Bool.false_eq_true, if_true, if_false, Cm.mk.injEq]
        repeat' apply And.intro
        all_goals first | rfl | omega | decide +kernel | (simp [zb]; done) | (simp [zb]; omega)
      · constructor <;> (try dsimp only) <;> first | omega | decide +kernel | (simp [zb]; done) | (simp [zb]; omega)
    · rw [show p0 0 true true [].length = 31 from by show p0 0 true true 0 = 31; decide +kernel]
      refine ⟨?_, ?_⟩
      · unfold ansR
        (try dsimp only)
        rw [if_neg (by decide +kernel), if_neg (by decide +kernel), if_neg (by decide +kernel)]
        rw [if_pos (by decide +kernel)]
        simp only [rdPart, show bt 31 1 = true from by decide +kernel, show bt 31 2 = true from by decide +kernel, show bt 31 4 = true from by decide +kernel, show bt 31 16 = true from by decide +kernel, show bits .and .u8 (31 / 4) 3 = 3 from by decide +kernel, show bits .and .u8 (31 / 2) 7 = 7 from by decide +kernel, show bits .and .u8 (31 / 4) 7 = 7 from by decide +kernel, Bool.false_eq_true, if_true, if_false, Cm.mk.injEq]
        repeat' apply And.intro
        all_goals first | rfl | omega | decide +kernel | (simp [zb]; done) | (simp [zb]; omega)
      · constructor <;> (try dsimp only) <;> first | omega | decide +kernel | (simp [zb]; done) | (simp [zb]; omega)
  | [x0], _ =>
    have g0 := hd x0 (by simp)
    cases l
    · simp [fits] at hm1
    cases t
    · rw [show p0 0 false true [x0].length = 13 from by show p0 0 false true 1 = 13; decide +kernel]
      refine ⟨?_, ?_⟩
      · unfold ansR
        (try dsimp only)
        rw [if_neg (by decide +kernel), if_neg (by decide +kernel), if_neg (by decide +kernel)]
        rw [if_pos (by decide +kernel)]
        simp only [rdPart, show bt 13 1 = true from by decide +kernel, show bt 13 2 = false from by decide +kernel, show bt 13 4 = true from by decide +kernel, show bt 13 16 = false from by decide +kernel, show bits .and .u8 (13 / 4) 3 = 3 from by decide +kernel, show bits .and .u8 (13 / 2) 7 = 6 from by decide +kernel, show bits .and .u8 (13 / 4) 7 = 3 from by decide +kernel, Bool.false_eq_true, if_true, if_false, Cm.mk.injEq]
        repeat' apply And.intro
        all_goals first | rfl | omega | decide +kernel | (simp [zb]; done) | (simp [zb]; omega)
      · constructor <;> (try dsimp only) <;> first | omega | decide +kernel | (simp [zb]; done) | (simp [zb]; omega)
    · rw [show p0 0 true true [x0].length = 29 from by show p0 0 true true 1 = 29; decide +kernel]
      refine ⟨?_, ?_⟩
      · unfold ansR
        (try dsimp only)
        rw [if_neg (by decide +kernel), if_neg (by decide +kernel), if_neg (by decide +kernel)]
        rw [if_pos (by decide +kernel)]
        simp only [rdPart, show bt 29 1 = true from by decide +kernel, show bt 29 2 = false from by decide +kernel, show bt 29 4 = true from by decide +kernel, show bt 29 16 = true from by decide +kernel, show bits .and .u8 (29 / 4) 3 = 3 from by decide +kernel, show bits .and .u8 (29 / 2) 7 = 6 from by decide +kernel, show bits .and .u8 (29 / 4) 7 = 7 from by decide +kernel, Bool.false_eq_true, if_true, if_false, Cm.mk.injEq]
        repeat' apply And.intro
        all_goals first | rfl | omega | decide +kernel | (simp [zb]; done) | (simp [zb]; omega)
      · constructor <;> (try dsimp only) <;> first | omega | decide +kernel | (simp [zb]; done) | (simp [zb]; omega)
  | [x0, x1], _ =>
    have g0 := hd x0 (by simp)
    have g1 := hd x1 (by simp)
    cases l
    · simp [fits] at hm1
    cases t
    · rw [show p0 0 false true [x0, x1].length = 11 from by show p0 0 false true 2 = 11; decide +kernel]
      refine ⟨?_, ?_⟩
      · unfold ansR
        (try dsimp only)
        rw [if_neg (by decide +kernel), if_neg (by decide +kernel), if_neg (by decide +kernel)]
        rw [if_pos (by decide +kernel)]
        simp only [rdPart, show bt 11 1 = true from by decide +kernel, show bt 11 2 = true from by decide +kernel, show bt 11 4 = false from by decide +kernel, show bt 11 16 = false from by decide +kernel, show bits .and .u8 (11 / 4) 3 = 2 from by decide +kernel, show bits .and .u8 (11 / 2) 7 = 5 from by decide +kernel, show bits .and .u8 (11 / 4) 7 = 2 from by decide +kernel, Bool.false_eq_true, if_true, if_false, Cm.mk.injEq]
        repeat' apply And.intro
        all_goals first | rfl | omega | decide +kernel | (simp [zb]; done) | (simp [zb]; omega)
      · constructor <;> (try dsimp only) <;> first | omega | decide +kernel | (simp [zb]; done) | (simp [zb]; omega)
    · rw [show p0 0 true true [x0, x1].length = 27 from by show p0 0 true true 2 = 27; decide +kernel]
      refine ⟨?_, ?_⟩
      · unfold ansR
        (try dsimp only)
        rw [if_neg (by decide +kernel), if_neg (by decide +kernel), if_neg (by decide +kernel)]
        rw [if_pos (by decide +kernel)]
        simp only [rdPart, show bt 27 1 = true from by decide +kernel, show bt 27 2 = true from by decide +kernel, show bt 27 4 = false from by decide +kernel, show bt 27 16 = true from by decide +kernel, show bits .and .u8 (27 / 4) 3 = 2 from by decide +kernel, show bits .and .u8 (27 / 2) 7 = 5 from by decide +kernel, show bits .and .u8 (27 / 4) 7 = 6 from by decide +kernel, Bool.false_eq_true, if_true, if_false, Cm.mk.injEq]
        repeat' apply And.intro
        all_goals first | rfl | omega | decide +kernel | (simp [zb]; done) | (simp [zb]; omega)
      · constructor <;> (try dsimp only) <;> first | omega | decide +kernel | (simp [zb]; done) | (simp [zb]; omega)
  | [x0, x1, x2], _ =>
    have g0 := hd x0 (by simp)
    have g1 := hd x1 (by simp)
    have g2 := hd x2 (by simp)
    cases l
    · simp [fits] at hm1
    cases t
    · rw [show p0 0 false true [x0, x1, x2].length = 9 from by show p0 0 false true 3 = 9; decide +kernel]
      refine ⟨?_, ?_⟩
      · unfold ansR
        (try dsimp only)
        rw [if_neg (by decide +kernel), if_neg (by decide +kernel), if_neg (by decide +kernel)]
        rw [if_pos (by decide +kernel)]
        simp only [rdPart, show bt 9 1 = true from by decide +kernel, show bt 9 2 = false from by decide +kernel, show bt 9 4 = false from by decide +kernel, show bt 9 16 = false from by decide +kernel, show bits .and .u8 (9 / 4) 3 = 2 from by decide +kernel, show bits .and .u8 (9 / 2) 7 = 4 from by decide +kernel, show bits .and .u8 (9 / 4) 7 = 2 from by decide +kernel, Bool.false_eq_true, if_true, if_false, Cm.mk.injEq]
        repeat' apply And.intro
        all_goals first | rfl | omega | decide +kernel | (simp [zb]; done) | (simp [zb]; omega)
      · constructor <;> (try dsimp only) <;> first | omega | decide +kernel | (simp [zb]; done) | (simp [zb]; omega)
    · rw [show p0 0 true true [x0, x1, x2].length = 25 from by show p0 0 true true 3 = 25; decide +kernel]
      refine ⟨?_, ?_⟩
      · unfold ansR
        (try dsimp only)
        rw [if_neg (by decide +kernel), if_neg (by decide +kernel), if_neg (by decide +kernel)]
        rw [if_pos (by decide +kernel)]
        simp only [rdPart, show bt 25 1 = true from by decide +kernel, show bt 25 2 = false from by decide +kernel, show bt 25 4 = false from by decide +kernel, show bt 25 16 = true from by decide +kernel, show bits .and .u8 (25 / 4) 3 = 2 from by decide +kernel, show bits .and .u8 (25 / 2) 7 = 4 from by decide +kernel, show bits .and .u8 (25 / 4) 7 = 6 from by decide +kernel, Bool.false_eq_true, if_true, if_false, Cm.mk.injEq]
        repeat' apply And.intro
        all_goals first | rfl | omega | decide +kernel | (simp [zb]; done) | (simp [zb]; omega)
      · constructor <;> (try dsimp only) <;> first | omega | decide +kernel | (simp [zb]; done) | (simp [zb]; omega)
  | [x0, x1, x2, x3], _ =>
    have g0 := hd x0 (by simp)
    have g1 := hd x1 (by simp)
    have g2 := hd x2 (by simp)
    have g3 := hd x3 (by simp)
    cases l
    · simp [fits] at hm1
    cases t
    · rw [show p0 0 false true [x0, x1, x2, x3].length = 7 from by show p0 0 false true 4 = 7; decide +kernel]
      refine ⟨?_, ?_⟩
      · unfold ansR
        (try dsimp only)
        rw [if_neg (by decide +kernel), if_neg (by decide +kernel), if_neg (by decide +kernel)]
        rw [if_pos (by decide +kernel)]
        simp only [rdPart, show bt 7 1 = true from by decide +kernel, show bt 7 2 = true from by decide +kernel, show bt 7 4 = true from by decide +kernel, show bt 7 16 = false from by decide +kernel, show bits .and .u8 (7 / 4) 3 = 1 from by decide +kernel, show bits .and .u8 (7 / 2) 7 = 3 from by decide +kernel, show bits .and .u8 (7 / 4) 7 = 1 from by decide +kernel, Bool.false_eq_true, if_true, if_false, Cm.mk.injEq]
        repeat' apply And.intro
        all_goals first | rfl | omega | decide +kernel | (simp [zb]; done) | (simp [zb]; omega)
      · constructor <;> (try dsimp only) <;> first | omega | decide +kernel | (simp [zb]; done) | (simp [zb]; omega)
    · rw [show p0 0 true true [x0, x1, x2, x3].length = 23 from by show p0 0 true true 4 = 23; decide +kernel]
      refine ⟨?_, ?_⟩
      · unfold ansR
        (try dsimp only)
        rw [if_neg (by decide +kernel), if_neg (by decide +kernel), if_neg (by decide +kernel)]
        rw [if_pos (by decide +kernel)]
        simp only [rdPart, show bt 23 1 = true from by decide +kernel, show bt 23 2 = true from by decide +kernel, show bt 23 4 = true from by decide +kernel, show bt 23 16 = true from by decide +kernel, show bits .and .u8 (23 / 4) 3 = 1 from by decide +kernel, show bits .and .u8 (23 / 2) 7 = 3 from by decide +kernel, show bits .and .u8 (23 / 4) 7 = 5 from by decide +kernel, Bool.false_eq_true, if_true, if_false, Cm.mk.injEq]
        repeat' apply And.intro
        all_goals first | rfl | omega | decide +kernel | (simp [zb]; done) | (simp [zb]; omega)
      · constructor <;> (try dsimp only) <;> first | omega | decide +kernel | (simp [zb]; done) | (simp [zb]; omega)
  | [x0, x1, x2, x3, x4], _ =>
    have g0 := hd x0 (by simp)
    have g1 := hd x1 (by simp)
    have g2 := hd x2 (by simp)
    have g3 := hd x3 (by simp)
    have g4 := hd x4 (by simp)
    cases l
    · simp [fits] at hm1
    cases t
    · rw [show p0 0 false true [x0, x1, x2, x3, x4].length = 5 from by show p0 0 false true 5 = 5; decide +kernel]
      refine ⟨?_, ?_⟩
      · unfold ansR
        (try dsimp only)
        rw [if_neg (by decide +kernel), if_neg (by decide +kernel), if_neg (by decide +kernel)]
        rw [if_pos (by decide +kernel)]
        simp only [rdPart, show bt 5 1 = true from by decide +kernel, show bt 5 2 = false from by decide +kernel, show bt 5 4 = true from by decide +kernel, show bt 5 16 = false from by decide +kernel, show bits .and .u8 (5 / 4) 3 = 1 from by decide +kernel, show bits .and .u8 (5 / 2) 7 = 2 from by decide +kernel, show bits .and .u8 (5 / 4) 7 = 1 from by decide +kernel, Bool.false_eq_true, if_true, if_false, Cm.mk.injEq]
        repeat' apply And.intro
        all_goals first | rfl | omega | decide +kernel | (simp [zb]; done) | (simp [zb]; omega)
      · constructor <;> (try dsimp only) <;> first | omega | decide +kernel | (simp [zb]; done) | (simp [zb]; omega)
    · rw [show p0 0 true true [x0, x1, x2, x3, x4].length = 21 from by show p0 0 true true 5 = 21; decide +kernel]
      refine ⟨?_, ?_⟩
      · unfold ansR
        (try dsimp only)
        rw [if_neg (by decide +kernel), if_neg (by decide +kernel), if_neg (by decide +kernel)]
        rw [if_pos (by decide +kernel)]
        simp only [rdPart, show bt 21 1 = true from by decide +kernel, show bt 21 2 = false from by decide +kernel, show bt 21 4 = true from by decide +kernel, show bt 21 16 = true from by decide +kernel, show bits .and .u8 (21 / 4) 3 = 1 from by decide +kernel, show bits .and .u8 (21 / 2) 7 = 2 from by decide +kernel, show bits .and .u8 (21 / 4) 7 = 5 from by decide +kernel, Bool.false_eq_true, if_true, if_false, Cm.mk.injEq]
        repeat' apply And.intro
        all_goals first | rfl | omega | decide +kernel | (simp [zb]; done) | (simp [zb]; omega)
      · constructor <;> (try dsimp only) <;> first | omega | decide +kernel | (simp [zb]; done) | (simp [zb]; omega)
  | [x0, x1, x2, x3, x4, x5], _ =>
    have g0 := hd x0 (by simp)
    have g1 := hd x1 (by simp)
    have g2 := hd x2 (by simp)
    have g3 := hd x3 (by simp)
    have g4 := hd x4 (by simp)
    have g5 := hd x5 (by simp)
    cases l
    · simp [fits] at hm1
    cases t
    · rw [show p0 0 false true [x0, x1, x2, x3, x4, x5].length = 3 from by show p0 0 false true 6 = 3; decide +kernel]
      refine ⟨?_, ?_⟩
      · unfold ansR
        (try dsimp only)
        rw [if_neg (by decide +kernel), if_neg (by decide +kernel), if_neg (by decide +kernel)]
        rw [if_pos (by decide +kernel)]
        simp only [rdPart, show bt 3 1 = true from by decide +kernel, show bt 3 2 = true from by decide +kernel, show bt 3 4 = false from by decide +kernel, show bt 3 16 = false from by decide +kernel, show bits .and .u8 (3 / 4) 3 = 0 from by decide +kernel, show bits .and .u8 (3 / 2) 7 = 1 from by decide +kernel, show bits .and .u8 (3 / 4) 7 = 0 from by decide +kernel, Bool.false_eq_true, if_true, if_false, Cm.mk.injEq]
        repeat' apply And.intro
        all_goals first | rfl | omega | decide +kernel | (simp [zb]; done) | (simp [zb]; omega)
      · constructor <;> (try dsimp only) <;> first | omega | decide +kernel | (simp [zb]; done) | (simp [zb]; omega)
    · rw [show p0 0 true true [x0, x1, x2, x3, x4, x5].length = 19 from by show p0 0 true true 6 = 19; decide +kernel]
      refine ⟨?_, ?_⟩
      · unfold ansR
        (try dsimp only)
        rw [if_neg (by decide +kernel), if_neg (by decide +kernel), if_neg (by decide +kernel)]
        rw [if_pos (by decide +kernel)]
        simp only [rdPart, show bt 19 1 = true from by decide +kernel, show bt 19 2 = true from by decide +kernel, show bt 19 4 = false from by decide +kernel, show bt 19 16 = true from by decide +kernel, show bits .and .u8 (19 / 4) 3 = 0 from by decide +kernel, show bits .and .u8 (19 / 2) 7 = 1 from by decide +kernel, show bits .and .u8 (19 / 4) 7 = 4 from by decide +kernel, Bool.false_eq_true, if_true, if_false, Cm.mk.injEq]
        repeat' apply And.intro
        all_goals first | rfl | omega | decide +kernel | (simp [zb]; done) | (simp [zb]; omega)
      · constructor <;> (try dsimp only) <;> first | omega | decide +kernel | (simp [zb]; done) | (simp [zb]; omega)
  | [x0, x1, x2, x3, x4, x5, x6], _ =>
    have g0 := hd x0 (by simp)
    have g1 := hd x1 (by simp)
    have g2 := hd x2 (by simp)
    have g3 := hd x3 (by simp)
    have g4 := hd x4 (by simp)
    have g5 := hd x5 (by simp)
    have g6 := hd x6 (by simp)
    cases l
    · cases t
      · rw [show p0 0 false false [x0, x1, x2, x3, x4, x5, x6].length = 0 from by show p0 0 false false 7 = 0; decide +kernel]
        refine ⟨?_, ?_⟩
        · unfold ansR
          (try dsimp only)
          rw [if_neg (by decide +kernel), if_neg (by decide +kernel), if_neg (by decide +kernel)]
          rw [if_pos (by decide +kernel)]
          simp only [rdPart, show bt 0 1 = false from by decide +kernel, show bt 0 2 = false from by decide +kernel, show bt 0 4 = false from by decide +kernel, show bt 0 16 = false from by decide +kernel, show bits .and .u8 (0 / 4) 3 = 0 from by decide +kernel, show bits .and .u8 (0 / 2) 7 = 0 from by decide +kernel, show bits .and .u8 (0 / 4) 7 = 0 from by decide +kernel, Bool.false_eq_true, if_true, if_false, Cm.mk.injEq]
          repeat' apply And.intro
          all_goals first | rfl | omega | decide +kernel | (simp [zb]; done) | (simp [zb]; omega)
        · constructor <;> (try dsimp only) <;> first | omega | decide +kernel | (simp [zb]; done) | (simp [zb]; omega)
      · rw [show p0 0 true false [x0, x1, x2, x3, x4, x5, x6].length = 16 from by show p0 0 true false 7 = 16; decide +kernel]
        refine ⟨?_, ?_⟩
        · unfold ansR
          (try dsimp only)
          rw [if_neg (by decide +kernel), if_neg (by decide +kernel), if_neg (by decide +kernel)]
          rw [if_pos (by decide +kernel)]
          simp only [rdPart, show bt 16 1 = false from by decide +kernel, show bt 16 2 = false from by decide +kernel, show bt 16 4 = false from by decide +kernel, show bt 16 16 = true from by decide +kernel, show bits .and .u8 (16 / 4) 3 = 0 from by decide +kernel, show bits .and .u8 (16 / 2) 7 = 0 from by decide +kernel, show bits .and .u8 (16 / 4) 7 = 4 from by decide +kernel, Bool.false_eq_true, if_true, if_false, Cm.mk.injEq]
          repeat' apply And.intro
          all_goals first | rfl | omega | decide +kernel | (simp [zb]; done) | (simp [zb]; omega)
        · constructor <;> (try dsimp only) <;> first | omega | decide +kernel | (simp [zb]; done) | (simp [zb]; omega)
    · cases t
      · rw [show p0 0 false true [x0, x1, x2, x3, x4, x5, x6].length = 1 from by show p0 0 false true 7 = 1; decide +kernel]
        refine ⟨?_, ?_⟩
        · unfold ansR
          (try dsimp only)
          rw [if_neg (by decide +kernel), if_neg (by decide +kernel), if_neg (by decide +kernel)]
          rw [if_pos (by decide +kernel)]
          simp only [rdPart, show bt 1 1 = true from by decide +kernel, show bt 1 2 = false from by decide +kernel, show bt 1 4 = false from by decide +kernel, show bt 1 16 = false from by decide +kernel, show bits .and .u8 (1 / 4) 3 = 0 from by decide +kernel, show bits .and .u8 (1 / 2) 7 = 0 from by decide +kernel, show bits .and .u8 (1 / 4) 7 = 0 from by decide +kernel, Bool.false_eq_true, if_true, if_false, Cm.mk.injEq]
          repeat' apply And.intro
          all_goals first | rfl | omega | decide +kernel | (simp [zb]; done) | (simp [zb]; omega)
        · constructor <;> (try dsimp only) <;> first | omega | decide +kernel | (simp [zb]; done) | (simp [zb]; omega)
      · rw [show p0 0 true true [x0, x1, x2, x3, x4, x5, x6].length = 17 from by show p0 0 true true 7 = 17; decide +kernel]
        refine ⟨?_, ?_⟩
        · unfold ansR
          (try dsimp only)
          rw [if_neg (by decide +kernel), if_neg (by decide +kernel), if_neg (by decide +kernel)]
          rw [if_pos (by decide +kernel)]
          simp only [rdPart, show bt 17 1 = true from by decide +kernel, show bt 17 2 = false from by decide +kernel, show bt 17 4 = false from by decide +kernel, show bt 17 16 = true from by decide +kernel, show bits .and .u8 (17 / 4) 3 = 0 from by decide +kernel, show bits .and .u8 (17 / 2) 7 = 0 from by decide +kernel, show bits .and .u8 (17 / 4) 7 = 4 from by decide +kernel, Bool.false_eq_true, if_true, if_false, Cm.mk.injEq]
          repeat' apply And.intro
          all_goals first | rfl | omega | decide +kernel | (simp [zb]; done) | (simp [zb]; omega)
        · constructor <;> (try dsimp only) <;> first | omega | decide +kernel | (simp [zb]; done) | (simp [zb]; omega)
set_option linter.unusedSimpArgs false in
set_option maxHeartbeats 4000000 in
theorem ans_back5 (c : Cm) (ok : c.Ok) (x : B8) (hkk : c.k = 5) (h : wStop 128 c = some x) : ansR x = c ∧ x.Ok := by
  unfold wStop at h
  split at h
  rotate_left
  · cases h
  rename_i hk
  have hc := (only_4097 _).1 hk
  simp only [Option.some.injEq] at h
  subst h
  obtain ⟨k, i, s, z, n, q, d, t, l, cc, b, e, u, m, o⟩ := c
  obtain ⟨_, ⟨hi1, hi2⟩, ⟨hs1, hs2⟩, ⟨hn1, hn2⟩, hd, _, _, ⟨hu1, hu2⟩, _, ⟨ho1, ho2⟩⟩ := ok
  simp only [Cm.mk.injEq] at hc
  obtain ⟨_, e1, e2, e3, e4, e5, e6, e7, e8, e9, e10, e11, e12, e13, e14⟩ := hc
  subst hkk
  dsimp only at *
  subst e3 e4 e5 e6 e7 e8 e9 e10 e11 e12 e13
  refine ⟨?_, ?_⟩
  · unfold ansR
    (try dsimp only)
    rw [if_neg (by decide +kernel), if_neg (by decide +kernel), if_neg (by decide +kernel), if_neg (by decide +kernel)]
    rw [if_pos (by decide +kernel)]
    simp only [rdStop, show bt 128 1 = false from by decide +kernel, show bt 128 2 = false from by decide +kernel, show bt 128 4 = false from by decide +kernel, show bt 128 16 = false from by decide +kernel, show bits .and .u8 (128 / 4) 3 = 0 from by decide +kernel, show bits .and .u8 (128 / 2) 7 = 0 from by decide +kernel, show bits .and .u8 (128 / 4) 7 = 0 from by decide +kernel, Bool.false_eq_true, if_true, if_false, Cm.mk.injEq]
    repeat' apply And.intro
    all_goals first | rfl | omega | decide +kernel | (simp [zb]; done) | (simp [zb]; omega)
  · constructor <;> (try dsimp only) <;> first | omega | decide +kernel | (simp [zb]; done) | (simp [zb]; omega)
set_option linter.unusedSimpArgs false in
set_option maxHeartbeats 4000000 in
theorem ans_back6 (c : Cm) (ok : c.Ok) (x : B8) (hkk : c.k = 6) (h : wBlock 160 c = some x) : ansR x = c ∧ x.Ok := by
  unfold wBlock at h
  split at h
  rotate_left
  · cases h
  rename_i hk
  simp only [Bool.and_eq_true, decide_eq_true_eq] at hk
  obtain ⟨hk, hm1, hm2⟩ := hk
  have hc := (only_385 _).1 hk
  simp only [Option.some.injEq] at h
  subst h
  obtain ⟨k, i, s, z, n, q, d, t, l, cc, b, e, u, m, o⟩ := c
  obtain ⟨_, ⟨hi1, hi2⟩, ⟨hs1, hs2⟩, ⟨hn1, hn2⟩, hd, _, _, ⟨hu1, hu2⟩, _, ⟨ho1, ho2⟩⟩ := ok
  simp only [Cm.mk.injEq] at hc
  obtain ⟨_, e1, e2, e3, e4, e5, e6, e7, e8, e9, e10, e11, e12, e13, e14⟩ := hc
  subst hkk
  dsimp only at *
  subst e3 e4 e5 e6 e7 e8 e11 e12 e13 e14
  cases cc
  · rw [show bits .or .u8 160 (bitv false 4) = 160 from by decide +kernel]
    refine ⟨?_, ?_⟩
    · unfold ansR
      (try dsimp only)
      rw [if_neg (by decide +kernel), if_neg (by decide +kernel), if_neg (by decide +kernel), if_neg (by decide +kernel), if_neg (by decide +kernel)]
      rw [if_pos (by decide +kernel)]
      simp only [rdBlock, show bt 160 1 = false from by decide +kernel, show bt 160 2 = false from by decide +kernel, show bt 160 4 = false from by decide +kernel, show bt 160 16 = false from by decide +kernel, show bits .and .u8 (160 / 4) 3 = 0 from by decide +kernel, show bits .and .u8 (160 / 2) 7 = 0 from by decide +kernel, show bits .and .u8 (160 / 4) 7 = 0 from by decide +kernel, Bool.false_eq_true, if_true, if_false, Cm.mk.injEq]
      repeat' apply And.intro
      all_goals first | rfl | omega | decide +kernel | (simp [zb]; done) | (simp [zb]; omega)
    · constructor <;> (try dsimp only) <;> first | omega | decide +kernel | (simp [zb]; done) | (simp [zb]; omega)
  · rw [show bits .or .u8 160 (bitv true 4) = 164 from by decide +kernel]
    refine ⟨?_, ?_⟩
    · unfold ansR
      (try dsimp only)
      rw [if_neg (by decide +kernel), if_neg (by decide +kernel), if_neg (by decide +kernel), if_neg (by decide +kernel), if_neg (by decide +kernel)]
      rw [if_pos (by decide +kernel)]
      simp only [rdBlock, show bt 164 1 = false from by decide +kernel, show bt 164 2 = false from by decide +kernel, show bt 164 4 = true from by decide +kernel, show bt 164 16 = false from by decide +kernel, show bits .and .u8 (164 / 4) 3 = 1 from by decide +kernel, show bits .and .u8 (164 / 2) 7 = 2 from by decide +kernel, show bits .and .u8 (164 / 4) 7 = 1 from by decide +kernel, Bool.false_eq_true, if_true, if_false, Cm.mk.injEq]
      repeat' apply And.intro
      all_goals first | rfl | omega | decide +kernel | (simp [zb]; done) | (simp [zb]; omega)
    · constructor <;> (try dsimp only) <;> first | omega | decide +kernel | (simp [zb]; done) | (simp [zb]; omega)
set_option linter.unusedSimpArgs false in
set_option maxHeartbeats 4000000 in
theorem ans_back10 (c : Cm) (ok : c.Ok) (x : B8) (hkk : c.k = 10) (h : wAck 162 c = some x) : ansR x = c ∧ x.Ok := by
  unfold wAck at h
  split at h
  rotate_left
  · cases h
  rename_i hk
  simp only [Bool.and_eq_true, decide_eq_true_eq] at hk
  obtain ⟨hk, ⟨hm1, hm2⟩, hm3, hm4⟩ := hk
  have hc := (only_768 _).1 hk
  simp only [Option.some.injEq] at h
  subst h
  obtain ⟨k, i, s, z, n, q, d, t, l, cc, b, e, u, m, o⟩ := c
  obtain ⟨_, ⟨hi1, hi2⟩, ⟨hs1, hs2⟩, ⟨hn1, hn2⟩, hd, _, _, ⟨hu1, hu2⟩, _, ⟨ho1, ho2⟩⟩ := ok
  simp only [Cm.mk.injEq] at hc
  obtain ⟨_, e1, e2, e3, e4, e5, e6, e7, e8, e9, e10, e11, e12, e13, e14⟩ := hc
  subst hkk
  dsimp only at *
  subst e1 e2 e3 e4 e5 e6 e7 e8 e9 e12 e13 e14
  refine ⟨?_, ?_⟩
  · unfold ansR
    (try dsimp only)
    rw [if_neg (by decide +kernel), if_neg (by decide +kernel), if_neg (by decide +kernel), if_neg (by decide +kernel), if_neg (by decide +kernel), if_neg (by decide +kernel)]
    rw [if_pos (by decide +kernel)]
    simp only [rdAck, show bt 162 1 = false from by decide +kernel, show bt 162 2 = true from by decide +kernel, show bt 162 4 = false from by decide +kernel, show bt 162 16 = false from by decide +kernel, show bits .and .u8 (162 / 4) 3 = 0 from by decide +kernel, show bits .and .u8 (162 / 2) 7 = 1 from by decide +kernel, show bits .and .u8 (162 / 4) 7 = 0 from by decide +kernel, Bool.false_eq_true, if_true, if_false, Cm.mk.injEq]
    repeat' apply And.intro
    all_goals first | rfl | omega | decide +kernel | (simp [zb]; done) | (simp [zb]; omega)
  · constructor <;> (try dsimp only) <;> first | omega | decide +kernel | (simp [zb]; done) | (simp [zb]; omega)
set_option linter.unusedSimpArgs false in
set_option maxHeartbeats 4000000 in
theorem ans_back7 (c : Cm) (ok : c.Ok) (x : B8) (hkk : c.k = 7) (h : wBare 161 c = some x) : ansR x = c ∧ x.Ok := by
  unfold wBare at h
  split at h
  rotate_left
  · cases h
  rename_i hk
  have hc := (only_0 _).1 hk
  simp only [Option.some.injEq] at h
  subst h
  obtain ⟨k, i, s, z, n, q, d, t, l, cc, b, e, u, m, o⟩ := c
  obtain ⟨_, ⟨hi1, hi2⟩, ⟨hs1, hs2⟩, ⟨hn1, hn2⟩, hd, _, _, ⟨hu1, hu2⟩, _, ⟨ho1, ho2⟩⟩ := ok
  simp only [Cm.mk.injEq] at hc
  obtain ⟨_, e1, e2, e3, e4, e5, e6, e7, e8, e9, e10, e11, e12, e13, e14⟩ := hc
  subst hkk
  dsimp only at *
  subst e1 e2 e3 e4 e5 e6 e7 e8 e9 e10 e11 e12 e13 e14
  refine ⟨?_, ?_⟩
  · unfold ansR
    (try dsimp only)
    rw [if_neg (by decide +kernel), if_neg (by decide +kernel), if_neg (by decide +kernel), if_neg (by decide +kernel), if_neg (by decide +kernel), if_neg (by decide +kernel), if_neg (by decide +kernel)]
    rw [if_pos (by decide +kernel)]
    simp only [rdBare, show bt 161 1 = true from by decide +kernel, show bt 161 2 = false from by decide +kernel, show bt 161 4 = false from by decide +kernel, show bt 161 16 = false from by decide +kernel, show bits .and .u8 (161 / 4) 3 = 0 from by decide +kernel, show bits .and .u8 (161 / 2) 7 = 0 from by decide +kernel, show bits .and .u8 (161 / 4) 7 = 0 from by decide +kernel, Bool.false_eq_true, if_true, if_false, Cm.mk.injEq]
    repeat' apply And.intro
    all_goals first | rfl | omega | decide +kernel | (simp [zb]; done) | (simp [zb]; omega)
  · constructor <;> (try dsimp only) <;> first | omega | decide +kernel | (simp [zb]; done) | (simp [zb]; omega)
set_option linter.unusedSimpArgs false in
set_option maxHeartbeats 4000000 in
theorem ans_back8 (c : Cm) (ok : c.Ok) (x : B8) (hkk : c.k = 8) (h : wSize 192 c = some x) : ansR x = c ∧ x.Ok := by
  unfold wSize at h
  split at h
  rotate_left
  · cases h
  rename_i hk
  simp only [Bool.and_eq_true, Bool.or_eq_true, beq_iff_eq] at hk
  obtain ⟨hk, hm1⟩ := hk
  have hc := (only_135 _).1 hk
  simp only [Option.some.injEq] at h
  subst h
  obtain ⟨k, i, s, z, n, q, d, t, l, cc, b, e, u, m, o⟩ := c
  obtain ⟨_, ⟨hi1, hi2⟩, ⟨hs1, hs2⟩, ⟨hn1, hn2⟩, hd, _, _, ⟨hu1, hu2⟩, _, ⟨ho1, ho2⟩⟩ := ok
  simp only [Cm.mk.injEq] at hc
  obtain ⟨_, e1, e2, e3, e4, e5, e6, e7, e8, e9, e10, e11, e12, e13, e14⟩ := hc
  subst hkk
  dsimp only at *
  subst e5 e6 e7 e8 e10 e11 e12 e13 e14
  cases z
  · obtain rfl : n = 0 := by simpa using hm1
    cases cc
    · rw [show bits .or .u8 192 (bits .or .u8 (bitv false 4) (bitv false 2)) = 192 from by decide +kernel]
      refine ⟨?_, ?_⟩
      · unfold ansR
        (try dsimp only)
        rw [if_neg (by decide +kernel), if_neg (by decide +kernel), if_neg (by decide +kernel), if_neg (by decide +kernel), if_neg (by decide +kernel), if_neg (by decide +kernel), if_neg (by decide +kernel), if_neg (by decide +kernel)]
        rw [if_pos (by decide +kernel)]
        simp only [rdSize, show bt 192 1 = false from by decide +kernel, show bt 192 2 = false from by decide +kernel, show bt 192 4 = false from by decide +kernel, show bt 192 16 = false from by decide +kernel, show bits .and .u8 (192 / 4) 3 = 0 from by decide +kernel, show bits .and .u8 (192 / 2) 7 = 0 from by decide +kernel, show bits .and .u8 (192 / 4) 7 = 0 from by decide +kernel, Bool.false_eq_true, if_true, if_false, Cm.mk.injEq]
        repeat' apply And.intro
        all_goals first | rfl | omega | decide +kernel | (simp [zb]; done) | (simp [zb]; omega)
      · constructor <;> (try dsimp only) <;> first | omega | decide +kernel | (simp [zb]; done) | (simp [zb]; omega)
    · rw [show bits .or .u8 192 (bits .or .u8 (bitv true 4) (bitv false 2)) = 196 from by decide +kernel]
      refine ⟨?_, ?_⟩
      · unfold ansR
        (try dsimp only)
        rw [if_neg (by decide +kernel), if_neg (by decide +kernel), if_neg (by decide +kernel), if_neg (by decide +kernel), if_neg (by decide +kernel), if_neg (by decide +kernel), if_neg (by decide +kernel), if_neg (by decide +kernel)]
        rw [if_pos (by decide +kernel)]
        simp only [rdSize, show bt 196 1 = false from by decide +kernel, show bt 196 2 = false from by decide +kernel, show bt 196 4 = true from by decide +kernel, show bt 196 16 = false from by decide +kernel, show bits .and .u8 (196 / 4) 3 = 1 from by decide +kernel, show bits .and .u8 (196 / 2) 7 = 2 from by decide +kernel, show bits .and .u8 (196 / 4) 7 = 1 from by decide +kernel, Bool.false_eq_true, if_true, if_false, Cm.mk.injEq]
        repeat' apply And.intro
        all_goals first | rfl | omega | decide +kernel | (simp [zb]; done) | (simp [zb]; omega)
      · constructor <;> (try dsimp only) <;> first | omega | decide +kernel | (simp [zb]; done) | (simp [zb]; omega)
  · cases cc
    · rw [show bits .or .u8 192 (bits .or .u8 (bitv false 4) (bitv true 2)) = 194 from by decide +kernel]
      refine ⟨?_, ?_⟩
      · unfold ansR
        (try dsimp only)
        rw [if_neg (by decide +kernel), if_neg (by decide +kernel), if_neg (by decide +kernel), if_neg (by decide +kernel), if_neg (by decide +kernel), if_neg (by decide +kernel), if_neg (by decide +kernel), if_neg (by decide +kernel)]
        rw [if_pos (by decide +kernel)]
        simp only [rdSize, show bt 194 1 = false from by decide +kernel, show bt 194 2 = true from by decide +kernel, show bt 194 4 = false from by decide +kernel, show bt 194 16 = false from by decide +kernel, show bits .and .u8 (194 / 4) 3 = 0 from by decide +kernel, show bits .and .u8 (194 / 2) 7 = 1 from by decide +kernel, show bits .and .u8 (194 / 4) 7 = 0 from by decide +kernel, Bool.false_eq_true, if_true, if_false, Cm.mk.injEq]
        repeat' apply And.intro
        all_goals first | rfl | omega | decide +kernel | (simp [zb]; done) | (simp [zb]; omega)
      · constructor <;> (try dsimp only) <;> first | omega | decide +kernel | (simp [zb]; done) | (simp [zb]; omega)
    · rw [show bits .or .u8 192 (bits .or .u8 (bitv true 4) (bitv true 2)) = 198 from by decide +kernel]
      refine ⟨?_, ?_⟩
      · unfold ansR
        (try dsimp only)
        rw [if_neg (by decide +kernel), if_neg (by decide +kernel), if_neg (by decide +kernel), if_neg (by decide +kernel), if_neg (by decide +kernel), if_neg (by decide +kernel), if_neg (by decide +kernel), if_neg (by decide +kernel)]
        rw [if_pos (by decide +kernel)]
        simp only [rdSize, show bt 198 1 = false from by decide +kernel, show bt 198 2 = true from by decide +kernel, show bt 198 4 = true from by decide +kernel, show bt 198 16 = false from by decide +kernel, show bits .and .u8 (198 / 4) 3 = 1 from by decide +kernel, show bits .and .u8 (198 / 2) 7 = 3 from by decide +kernel, show bits .and .u8 (198 / 4) 7 = 1 from by decide +kernel, Bool.false_eq_true, if_true, if_false, Cm.mk.injEq]
        repeat' apply And.intro
        all_goals first | rfl | omega | decide +kernel | (simp [zb]; done) | (simp [zb]; omega)
      · constructor <;> (try dsimp only) <;> first | omega | decide +kernel | (simp [zb]; done) | (simp [zb]; omega)
set_option linter.unusedSimpArgs false in
set_option maxHeartbeats 4000000 in
theorem ans_back11 (c : Cm) (ok : c.Ok) (x : B8) (hkk : c.k = 11) (h : wEnd 193 c = some x) : ansR x = c ∧ x.Ok := by
  unfold wEnd at h
  split at h
  rotate_left
  · cases h
  rename_i hk
  simp only [Bool.and_eq_true, decide_eq_true_eq] at hk
  obtain ⟨hk, hm1, hm2⟩ := hk
  have hc := (only_3072 _).1 hk
  simp only [Option.some.injEq] at h
  subst h
  obtain ⟨k, i, s, z, n, q, d, t, l, cc, b, e, u, m, o⟩ := c
  obtain ⟨_, ⟨hi1, hi2⟩, ⟨hs1, hs2⟩, ⟨hn1, hn2⟩, hd, _, _, ⟨hu1, hu2⟩, _, ⟨ho1, ho2⟩⟩ := ok
  simp only [Cm.mk.injEq] at hc
  obtain ⟨_, e1, e2, e3, e4, e5, e6, e7, e8, e9, e10, e11, e12, e13, e14⟩ := hc
  subst hkk
  dsimp only at *
  subst e1 e2 e3 e4 e5 e6 e7 e8 e9 e10 e11 e14
  have h9 : m = 0 ∨ m = 1 ∨ m = 2 ∨ m = 3 ∨ m = 4 ∨ m = 5 ∨ m = 6 ∨ m = 7 := by omega
  rcases h9 with rfl | rfl | rfl | rfl | rfl | rfl | rfl | rfl
  · rw [show bits .or .u8 193 (0 * 4) = 193 from by decide +kernel]
    refine ⟨?_, ?_⟩
    · unfold ansR
      (try dsimp only)
      rw [if_neg (by decide +kernel), if_neg (by decide +kernel), if_neg (by decide +kernel), if_neg (by decide +kernel), if_neg (by decide +kernel), if_neg (by decide +kernel), if_neg (by decide +kernel), if_neg (by decide +kernel), if_neg (by decide +kernel)]
      rw [if_pos (by decide +kernel)]
      simp only [rdEnd, show bt 193 1 = true from by decide +kernel, show bt 193 2 = false from by decide +kernel, show bt 193 4 = false from by decide +kernel, show bt 193 16 = false from by decide +kernel, show bits .and .u8 (193 / 4) 3 = 0 from by decide +kernel, show bits .and .u8 (193 / 2) 7 = 0 from by decide +kernel, show bits .and .u8 (193 / 4) 7 = 0 from by decide +kernel, Bool.false_eq_true, if_true, if_false, Cm.mk.injEq]
      repeat' apply And.intro
      all_goals first | rfl | omega | decide +kernel | (simp [zb]; done) | (simp [zb]; omega)
    · constructor <;> (try dsimp only) <;> first | omega | decide +kernel | (simp [zb]; done) | (simp [zb]; omega)
  · rw [show bits .or .u8 193 (1 * 4) = 197 from by decide +kernel]
    refine ⟨?_, ?_⟩
    · unfold ansR
      (try dsimp only)
      rw [if_neg (by decide +kernel), if_neg (by decide +kernel), if_neg (by decide +kernel), if_neg (by decide +kernel), if_neg (by decide +kernel), if_neg (by decide +kernel), if_neg (by decide +kernel), if_neg (by decide +kernel), if_neg (by decide +kernel)]
      rw [if_pos (by decide +kernel)]
      simp only [rdEnd, show bt 197 1 = true from by decide +kernel, show bt 197 2 = false from by decide +kernel, show bt 197 4 = true from by decide +kernel, show bt 197 16 = false from by decide +kernel, show bits .and .u8 (197 / 4) 3 = 1 from by decide +kernel, show bits .and .u8 (197 / 2) 7 = 2 from by decide +kernel, show bits .and .u8 (197 / 4) 7 = 1 from by decide +kernel, Bool.false_eq_true, if_true, if_false, Cm.mk.injEq]
      repeat' apply And.intro
      all_goals first | rfl | omega | decide +kernel | (simp [zb]; done) | (simp [zb]; omega)
    · constructor <;> (try dsimp only) <;> first | omega | decide +kernel | (simp [zb]; done) | (simp [zb]; omega)
  · rw [show bits .or .u8 193 (2 * 4) = 201 from by decide +kernel]
    refine ⟨?_, ?_⟩
    · unfold ansR
      (try dsimp only)
      rw [if_neg (by decide +kernel), if_neg (by decide +kernel), if_neg (by decide +kernel), if_neg (by decide +kernel), if_neg (by decide +kernel), if_neg (by decide +kernel), if_neg (by decide +kernel), if_neg (by decide +kernel), if_neg (by decide +kernel)]
      rw [if_pos (by decide +kernel)]
      simp only [rdEnd, show bt 201 1 = true from by decide +kernel, show bt 201 2 = false from by decide +kernel, show bt 201 4 = false from by decide +kernel, show bt 201 16 = false from by decide +kernel, show bits .and .u8 (201 / 4) 3 = 2 from by decide +kernel, show bits .and .u8 (201 / 2) 7 = 4 from by decide +kernel, show bits .and .u8 (201 / 4) 7 = 2 from by decide +kernel, Bool.false_eq_true, if_true, if_false, Cm.mk.injEq]
      repeat' apply And.intro
      all_goals first | rfl | omega | decide +kernel | (simp [zb]; done) | (simp [zb]; omega)
    · constructor <;> (try dsimp only) <;> first | omega | decide +kernel | (simp [zb]; done) | (simp [zb]; omega)
  · rw [show bits .or .u8 193 (3 * 4) = 205 from by decide +kernel]
    refine ⟨?_, ?_⟩
    · unfold ansR
      (try dsimp only)
      rw [if_neg (by decide +kernel), if_neg (by decide +kernel), if_neg (by decide +kernel), if_neg (by decide +kernel), if_neg (by decide +kernel), if_neg (by decide +kernel), if_neg (by decide +kernel), if_neg (by decide +kernel), if_neg (by decide +kernel)]
      rw [if_pos (by decide +kernel)]
      simp only [rdEnd, show bt 205 1 = true from by decide +kernel, show bt 205 2 = false from by decide +kernel, show bt 205 4 = true from by decide +kernel, show bt 205 16 = false from by decide +kernel, show bits .and .u8 (205 / 4) 3 = 3 from by decide +kernel, show bits .and .u8 (205 / 2) 7 = 6 from by decide +kernel, show bits .and .u8 (205 / 4) 7 = 3 from by decide +kernel, Bool.false_eq_true, if_true, if_false, Cm.mk.injEq]
      repeat' apply And.intro
      all_goals first | rfl | omega | decide +kernel | (simp [zb]; done) | (simp [zb]; omega)
    · constructor <;> (try dsimp only) <;> first | omega | decide +kernel | (simp [zb]; done) | (simp [zb]; omega)
  · rw [show bits .or .u8 193 (4 * 4) = 209 from by decide +kernel]
    refine ⟨?_, ?_⟩
    · unfold ansR
      (try dsimp only)
      rw [if_neg (by decide +kernel), if_neg (by decide +kernel), if_neg (by decide +kernel), if_neg (by decide +kernel), if_neg (by decide +kernel), if_neg (by decide +kernel), if_neg (by decide +kernel), if_neg (by decide +kernel), if_neg (by decide +kernel)]
      rw [if_pos (by decide +kernel)]
      simp only [rdEnd, show bt 209 1 = true from by decide +kernel, show bt 209 2 = false from by decide +kernel, show bt 209 4 = false from by decide +kernel, show bt 209 16 = true from by decide +kernel, show bits .and .u8 (209 / 4) 3 = 0 from by decide +kernel, show bits .and .u8 (209 / 2) 7 = 0 from by decide +kernel, show bits .and .u8 (209 / 4) 7 = 4 from by decide +kernel, Bool.false_eq_true, if_true, if_false, Cm.mk.injEq]
      repeat' apply And.intro
      all_goals first | rfl | omega | decide +kernel | (simp [zb]; done) | (simp [zb]; omega)
    · constructor <;> (try dsimp only) <;> first | omega | decide +kernel | (simp [zb]; done) | (simp [zb]; omega)
  · rw [show bits .or .u8 193 (5 * 4) = 213 from by decide +kernel]
    refine ⟨?_, ?_⟩
    · unfold ansR
      (try dsimp only)
      rw [if_neg (by decide +kernel), if_neg (by decide +kernel), if_neg (by decide +kernel), if_neg (by decide +kernel), if_neg (by decide +kernel), if_neg (by decide +kernel), if_neg (by decide +kernel), if_neg (by decide +kernel), if_neg (by decide +kernel)]
      rw [if_pos (by decide +kernel)]
      simp only [rdEnd, show bt 213 1 = true from by decide +kernel, show bt 213 2 = false from by decide +kernel, show bt 213 4 = true from by decide +kernel, show bt 213 16 = true from by decide +kernel, show bits .and .u8 (213 / 4) 3 = 1 from by decide +kernel, show bits .and .u8 (213 / 2) 7 = 2 from by decide +kernel, show bits .and .u8 (213 / 4) 7 = 5 from by decide +kernel, Bool.false_eq_true, if_true, if_false, Cm.mk.injEq]
      repeat' apply And.intro
      all_goals first | rfl | omega | decide +kernel | (simp [zb]; done) | (simp [zb]; omega)
    · constructor <;> (try dsimp only) <;> first | omega | decide +kernel | (simp [zb]; done) | (simp [zb]; omega)
  · rw [show bits .or .u8 193 (6 * 4) = 217 from by decide +kernel]
    refine ⟨?_, ?_⟩
    · unfold ansR
      (try dsimp only)
      rw [if_neg (by decide +kernel), if_neg (by decide +kernel), if_neg (by decide +kernel), if_neg (by decide +kernel), if_neg (by decide +kernel), if_neg (by decide +kernel), if_neg (by decide +kernel), if_neg (by decide +kernel), if_neg (by decide +kernel)]
      rw [if_pos (by decide +kernel)]
      simp only [rdEnd, show bt 217 1 = true from by decide +kernel, show bt 217 2 = false from by decide +kernel, show bt 217 4 = false from by decide +kernel, show bt 217 16 = true from by decide +kernel, show bits .and .u8 (217 / 4) 3 = 2 from by decide +kernel, show bits .and .u8 (217 / 2) 7 = 4 from by decide +kernel, show bits .and .u8 (217 / 4) 7 = 6 from by decide +kernel, Bool.false_eq_true, if_true, if_false, Cm.mk.injEq]
      repeat' apply And.intro
      all_goals first | rfl | omega | decide +kernel | (simp [zb]; done) | (simp [zb]; omega)
    · constructor <;> (try dsimp only) <;> first | omega | decide +kernel | (simp [zb]; done) | (simp [zb]; omega)
  · rw [show bits .or .u8 193 (7 * 4) = 221 from by decide +kernel]
    refine ⟨?_, ?_⟩
    · unfold ansR
      (try dsimp only)
      rw [if_neg (by decide +kernel), if_neg (by decide +kernel), if_neg (by decide +kernel), if_neg (by decide +kernel), if_neg (by decide +kernel), if_neg (by decide +kernel), if_neg (by decide +kernel), if_neg (by decide +kernel), if_neg (by decide +kernel)]
      rw [if_pos (by decide +kernel)]
      simp only [rdEnd, show bt 221 1 = true from by decide +kernel, show bt 221 2 = false from by decide +kernel, show bt 221 4 = true from by decide +kernel, show bt 221 16 = true from by decide +kernel, show bits .and .u8 (221 / 4) 3 = 3 from by decide +kernel, show bits .and .u8 (221 / 2) 7 = 6 from by decide +kernel, show bits .and .u8 (221 / 4) 7 = 7 from by decide +kernel, Bool.false_eq_true, if_true, if_false, Cm.mk.injEq]
      repeat' apply And.intro
      all_goals first | rfl | omega | decide +kernel | (simp [zb]; done) | (simp [zb]; omega)
    · constructor <;> (try dsimp only) <;> first | omega | decide +kernel | (simp [zb]; done) | (simp [zb]; omega)
theorem ans_back (c : Cm) (ok : c.Ok) (x : B8) (h : ansP c = some x) : ansR x = c ∧ x.Ok := by
  unfold ansP at h
  by_cases h1 : c.k = 1
  · rw [if_pos h1] at h; exact ans_back1 c ok x h1 h
  rw [if_neg h1] at h
  by_cases h2 : c.k = 2
  · rw [if_pos h2] at h; exact ans_back2 c ok x h2 h
  rw [if_neg h2] at h
  by_cases h3 : c.k = 3
  · rw [if_pos h3] at h; exact ans_back3 c ok x h3 h
  rw [if_neg h3] at h
  by_cases h4 : c.k = 4
  · rw [if_pos h4] at h; exact ans_back4 c ok x h4 h
  rw [if_neg h4] at h
  by_cases h5 : c.k = 5
  · rw [if_pos h5] at h; exact ans_back5 c ok x h5 h
  rw [if_neg h5] at h
  by_cases h6 : c.k = 6
  · rw [if_pos h6] at h; exact ans_back6 c ok x h6 h
  rw [if_neg h6] at h
  by_cases h10 : c.k = 10
  · rw [if_pos h10] at h; exact ans_back10 c ok x h10 h
  rw [if_neg h10] at h
  by_cases h7 : c.k = 7
  · rw [if_pos h7] at h; exact ans_back7 c ok x h7 h
  rw [if_neg h7] at h
  by_cases h8 : c.k = 8
  · rw [if_pos h8] at h; exact ans_back8 c ok x h8 h
  rw [if_neg h8] at h
  by_cases h11 : c.k = 11
  · rw [if_pos h11] at h; exact ans_back11 c ok x h11 h
  rw [if_neg h11] at h
  cases h
#print axioms ans_back
end Go.Proofs.Ytlnlejdjekbipaa
