/-
  FrameBack's walk: true of any three frames and any text.
-/
import Derived.Test.YtbjbnfhmehkkpaaBkA
import Derived.Test.YtbjbnfhmehkkpaaBkB
import Derived.Test.YtbjbnfhmehkkpaaBkC
import Derived.Test.YtbjbnfhmehkkpaaBkD
import Derived.Test.YtbjbnfhmehkkpaaRdL
namespace Go.Proofs.Ytbjbnfhmehkkpaa
open Go.RowKit

theorem befB_self (i : Int) (r : Bool) : befB i r i r = false := by cases r <;> simp [befB]
theorem befB_case (i : Int) (r : Bool) (j : Int) (s : Bool) (k : Int) (t : Bool) :
    befB i r j s = false ∨ (befB i r j s = true ∧ befB j s i r = false ∧ befB j s k t = false) ∨ (befB i r j s = true ∧ befB j s i r = false ∧ befB j s k t = true ∧ befB i r k t = true) := by
  cases h1 : befB i r j s with
  | false => exact .inl rfl
  | true =>
    have h2 : befB j s i r = false := by
      cases h : befB j s i r with
      | false => rfl
      | true =>
        simp [befB] at h1 h
        rcases h1 with h1 | ⟨h1, h3, h4⟩ <;> rcases h with h | ⟨h, h5, h6⟩ <;> simp_all <;> omega
    cases h3 : befB j s k t with
    | false => exact .inr (.inl ⟨rfl, h2, rfl⟩)
    | true =>
      refine .inr (.inr ⟨rfl, h2, rfl, ?_⟩)
      simp [befB] at h1 h3 ⊢
      rcases h1 with h1 | ⟨h1, h4, h5⟩ <;> rcases h3 with h3 | ⟨h3, h6, h7⟩ <;> first | exact .inl (by omega) | (exfalso; simp_all; done)

theorem empty_rd : rdR [] = noFr 30 := rfl
theorem zero_right : rightB 0 0 [0, 0, 0, 0, 0, 0, 0, 0] false = true := by decide +kernel

theorem frameBack_any (i n d0 d1 d2 d3 d4 d5 d6 d7 : Int) (r : Bool) (j m e0 e1 e2 e3 e4 e5 e6 e7 : Int) (s : Bool) (k o g0 g1 g2 g3 g4 g5 g6 g7 : Int) (t : Bool) (zs : List Int) (w : World) (hi : 0 ≤ i) (hd : Oct [d0, d1, d2, d3, d4, d5, d6, d7]) (ho : Oct zs) :
    Calls Try.prog 5 #[frV i n d0 d1 d2 d3 d4 d5 d6 d7 r, frV j m e0 e1 e2 e3 e4 e5 e6 e7 s, frV k o g0 g1 g2 g3 g4 g5 g6 g7 t, .string (strOfNums zs)] w fun e w' => e = .returned (.bool true) ∧ Below w.heap.size w w' := by
  have hsz : (strOfNums zs).size = zs.length := strOfNums_size zs
  by_cases h1 : (1000 : Int) < (zs.length : Int)
  · generalize strOfNums zs = S at *
    go_enter Try.func5, Try.ntmps5
    go_wp2_with fail
    go_ret
    exact ⟨rfl, Below.al (Below.al (Below.al (Below.refl _ _) _) _) _⟩
  have hs : ¬ (1000 : Int) < ((strOfNums zs).size : Int) := by rw [hsz]; exact h1
  have hff := befB_self i r
  have hcase := befB_case i r j s k t
  have hW1 := fun w => write_any i n d0 d1 d2 d3 d4 d5 d6 d7 r w hd hi
  have hT1 := fun w => right_any i n d0 d1 d2 d3 d4 d5 d6 d7 r w hd
  have hR2 := fun w => read_any zs w ho (by omega)
  by_cases hc : (rdR zs).c = 0
  · obtain ⟨yi, yn, y0, y1, y2, y3, y4, y5, y6, y7, yr, he, h0, hod, hr, hw⟩ := wr_rd zs hc
    rw [he] at hR2
    have hW2 := fun w => write_any yi yn y0 y1 y2 y3 y4 y5 y6 y7 yr w hod h0
    have hT2 := fun w => right_any yi yn y0 y1 y2 y3 y4 y5 y6 y7 yr w hod
    rw [show wrS yi yn [y0, y1, y2, y3, y4, y5, y6, y7] yr = zs from by simp only [wrS, hr, if_true, hw], show wrE yi yn [y0, y1, y2, y3, y4, y5, y6, y7] yr = 0 from by simp [wrE, hr]] at hW2
    rw [hr] at hT2
    cases hq : rightB i n [d0, d1, d2, d3, d4, d5, d6, d7] r with
    | true =>
      have hl := wrL_len i n [d0, d1, d2, d3, d4, d5, d6, d7] r hq rfl
      obtain ⟨b1, b2, b3⟩ := rightB_n _ _ _ _ hq
      rw [show wrS i n [d0, d1, d2, d3, d4, d5, d6, d7] r = wrL i n [d0, d1, d2, d3, d4, d5, d6, d7] r from by simp [wrS, hq], show wrE i n [d0, d1, d2, d3, d4, d5, d6, d7] r = 0 from by simp [wrE, hq]] at hW1
      rw [hq] at hT1
      have hR1 := fun w => read_any (wrL i n [d0, d1, d2, d3, d4, d5, d6, d7] r) w (wrL_oct i n [d0, d1, d2, d3, d4, d5, d6, d7] r hi b1 b2 b3 hd) (by omega)
      rw [rd_wr i n d0 d1 d2 d3 d4 d5 d6 d7 r hi hd hq] at hR1
      exact back_A i n d0 d1 d2 d3 d4 d5 d6 d7 r j m e0 e1 e2 e3 e4 e5 e6 e7 s k o g0 g1 g2 g3 g4 g5 g6 g7 t _ _ ⟨#[]⟩ yi yn y0 y1 y2 y3 y4 y5 y6 y7 yr w hs hW1 hR1 hT1 hR2 hW2 hT2 hff hcase
    | false =>
      rw [show wrS i n [d0, d1, d2, d3, d4, d5, d6, d7] r = [] from by simp [wrS, hq], show wrE i n [d0, d1, d2, d3, d4, d5, d6, d7] r = 30 from by simp [wrE, hq]] at hW1
      rw [hq] at hT1
      have hR1 := fun w => read_any [] w oct_nil (by decide)
      rw [empty_rd] at hR1
      exact back_C i n d0 d1 d2 d3 d4 d5 d6 d7 r j m e0 e1 e2 e3 e4 e5 e6 e7 s k o g0 g1 g2 g3 g4 g5 g6 g7 t _ _ ⟨#[]⟩ yi yn y0 y1 y2 y3 y4 y5 y6 y7 yr w hs hW1 hR1 hT1 hR2 hW2 hT2 hff hcase
  · rw [rdR_err zs hc] at hR2
    have hW2 := fun w => write_any 0 0 0 0 0 0 0 0 0 0 false w oct_of0 (by decide)
    have hT2 := fun w => right_any 0 0 0 0 0 0 0 0 0 0 false w oct_of0
    rw [show wrE 0 0 [0, 0, 0, 0, 0, 0, 0, 0] false = 0 from by simp [wrE, zero_right]] at hW2
    rw [zero_right] at hT2
    cases hq : rightB i n [d0, d1, d2, d3, d4, d5, d6, d7] r with
    | true =>
      have hl := wrL_len i n [d0, d1, d2, d3, d4, d5, d6, d7] r hq rfl
      obtain ⟨b1, b2, b3⟩ := rightB_n _ _ _ _ hq
      rw [show wrS i n [d0, d1, d2, d3, d4, d5, d6, d7] r = wrL i n [d0, d1, d2, d3, d4, d5, d6, d7] r from by simp [wrS, hq], show wrE i n [d0, d1, d2, d3, d4, d5, d6, d7] r = 0 from by simp [wrE, hq]] at hW1
      rw [hq] at hT1
      have hR1 := fun w => read_any (wrL i n [d0, d1, d2, d3, d4, d5, d6, d7] r) w (wrL_oct i n [d0, d1, d2, d3, d4, d5, d6, d7] r hi b1 b2 b3 hd) (by omega)
      rw [rd_wr i n d0 d1 d2 d3 d4 d5 d6 d7 r hi hd hq] at hR1
      exact back_B i n d0 d1 d2 d3 d4 d5 d6 d7 r j m e0 e1 e2 e3 e4 e5 e6 e7 s k o g0 g1 g2 g3 g4 g5 g6 g7 t _ _ _ w hs hW1 hR1 hT1 hR2 hW2 hT2 hff hcase
    | false =>
      rw [show wrS i n [d0, d1, d2, d3, d4, d5, d6, d7] r = [] from by simp [wrS, hq], show wrE i n [d0, d1, d2, d3, d4, d5, d6, d7] r = 30 from by simp [wrE, hq]] at hW1
      rw [hq] at hT1
      have hR1 := fun w => read_any [] w oct_nil (by decide)
      rw [empty_rd] at hR1
      exact back_D i n d0 d1 d2 d3 d4 d5 d6 d7 r j m e0 e1 e2 e3 e4 e5 e6 e7 s k o g0 g1 g2 g3 g4 g5 g6 g7 t _ _ _ w hs hW1 hR1 hT1 hR2 hW2 hT2 hff hcase
theorem frameBack_str (i n d0 d1 d2 d3 d4 d5 d6 d7 : Int) (r : Bool) (j m e0 e1 e2 e3 e4 e5 e6 e7 : Int) (s : Bool) (k o g0 g1 g2 g3 g4 g5 g6 g7 : Int) (t : Bool) (x : ByteArray) (w : World) (hi : 0 ≤ i) (hd : Oct [d0, d1, d2, d3, d4, d5, d6, d7]) :
    Calls Try.prog 5 #[frV i n d0 d1 d2 d3 d4 d5 d6 d7 r, frV j m e0 e1 e2 e3 e4 e5 e6 e7 s, frV k o g0 g1 g2 g3 g4 g5 g6 g7 t, .string x] w fun e w' => e = .returned (.bool true) ∧ Below w.heap.size w w' := by
  have := frameBack_any i n d0 d1 d2 d3 d4 d5 d6 d7 r j m e0 e1 e2 e3 e4 e5 e6 e7 s k o g0 g1 g2 g3 g4 g5 g6 g7 t (nums x) w hi hd (nums_oct x)
  rwa [nums_str] at this
#print axioms frameBack_str
end Go.Proofs.Ytbjbnfhmehkkpaa
