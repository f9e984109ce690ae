/-
  The walk of the document's unquoted.
-/
import Derived.Test.YtkfmmpolcjbnbaaGreatDoorVn9s
import Derived.Test.YtkfmmpolcjbnbaaGreatDoorVn9t
namespace Go.Proofs.YtkfmmpolcjbnbaaGreatDoor
open Pl Go.RowKit

set_option linter.unusedSimpArgs false in
set_option maxHeartbeats 8000000 in
set_option maxRecDepth 100000 in
theorem unquotedD_any (l : List UInt8) (w : World) (hl : l.length ≤ 1000000) :
    Calls Tryz.prog 39 #[.string (str l)] w (RefTo w (uqV l)) := by
  have SL : Hid (∀ (p : Nat), p + 4 ≤ l.length - 2 → ∀ w : World, (Instr.slice 9 (.string (str l)) (some (.int .i64 ((p : Int) + 1 + 2))) (some (.int .i64 ((p : Int) + 1 + 4))) none).run Tryz.prog w = .ok (.string (str ((l.drop (p + 3)).take 2))) w) := fun p hp w => by
    have := slice_str l (p + 3) (p + 5) (by omega) (by omega) w
    rw [show p + 5 - (p + 3) = 2 by omega, show ((p + 3 : Nat) : Int) = (p : Int) + 1 + 2 from by omega, show ((p + 5 : Nat) : Int) = (p : Int) + 1 + 4 from by omega] at this
    exact this
  obtain ⟨s, HS, htl, hsz, hix⟩ := str_facts l
  have IX : Hid (∀ (k : Nat) (z : Int), z = (k : Int) → k < l.length → ∀ w : World, (Instr.index 9 (.string s) (.int .i64 z)).run Tryz.prog w = .ok (.int .u8 ((ch l k : Nat) : Int)) w) := fun k z hz h w => by rw [hz, ← ch_at l k h]; exact hix k h w
  rw [HS.out] at SL ⊢
  clear hix htl HS
  obtain ⟨i0, hi, hz0, hz1, hz2⟩ := info_parts info8
  by_cases c2 : 2 ≤ l.length
  rotate_left
  · have g2 : (l.length : Int) < 2 := by omega
    rw [show uqV l = none from by unfold uqV; rw [if_neg (by intro h; exact c2 h.1)]]
    clear SL IX c2
    go_enter Tryz.func39, Tryz.ntmps39
    go_wp2_with fail
    go_ret2
    exact ⟨⟨_, rfl⟩, Below.al (Below.refl _ _) _⟩
  have g2 : ¬ (l.length : Int) < 2 := by omega
  have xl := IX.out (l.length - 1) ((l.length : Int) - 1) (by omega) (by omega)
  have hlast : l.getLast? = some (l.getD (l.length - 1) 0) := by
    rw [List.getLast?_eq_getElem?, List.getD_eq_getElem?_getD, List.getElem?_eq_getElem (by omega)]; rfl
  by_cases c3 : ch l (l.length - 1) = 34
  rotate_left
  · have b3 : ((ch l (l.length - 1) : Int) != 34) = true := by simp; omega
    rw [show uqV l = none from by unfold uqV; rw [if_neg (by rintro ⟨_, h⟩; rw [hlast] at h; exact c3 (by have := Option.some.inj h; unfold ch; rw [this]; rfl))]]
    clear SL IX c2 c3 hlast
    generalize ch l (l.length - 1) = cl at *
    go_enter Tryz.func39, Tryz.ntmps39
    go_wp2_with fail
    go_ret2
    exact ⟨⟨_, rfl⟩, Below.al (Below.refl _ _) _⟩
  rw [c3] at xl
  have UV : uqV l = qL (inner l).length (inner l) := by unfold uqV; rw [if_pos ⟨c2, by rw [hlast]; exact congrArg some (UInt8.toNat_inj.1 c3)⟩]
  rw [UV]
  obtain ⟨R, HR⟩ : ∃ R, Hid (R = qL (inner l).length (inner l)) := ⟨_, rfl⟩
  rw [← HR.out]
  have IL := inner_len l
  clear UV hlast c3
  go_enter Tryz.func39, Tryz.ntmps39
  go_wp2_with fail
  clear xl
  go_loopw [4, 5] (fun v i wr => ∃ (p : Nat) (bs : List Int), p ≤ l.length - 2 ∧ i = .int .i64 ((p : Int) + 1) ∧ bs.length ≤ p ∧ R = (qL (l.length - 2 - bs.length) ((inner l).drop p)).map (fun cs => bs ++ cs) ∧ Oct bs ∧ Below w.heap.size w wr ∧ wr.ownsRow w.heap.size 5 1 v bs.length (bs.map (Value.int .u8)))
    (fun _ i _ => l.length - (intOf i).toNat)
  case atStart =>
    refine ⟨0, [], Nat.zero_le _, rfl, Nat.zero_le _, by rw [HR.out, IL]; simp, fun n hn => by simp at hn, Below.al (Below.refl _ _) _, ⟨by simp, .inr ⟨w.heap.size, 0, #[], rfl, Nat.le_refl _, ?_, Nat.le_refl _, by decide, by simp, by simp⟩⟩⟩
    show (w.heap.push _)[w.heap.size]? = _
    simp
  case round =>
    obtain ⟨p, bs, hp, rfl, hbl, hq, hob, hb, hown⟩ := hrel
    have OWN : Hid (wr.ownsRow w.heap.size 5 1 u4 bs.length (bs.map (Value.int .u8))) := hown
    clear hown
    by_cases hlt : p < l.length - 2
    rotate_left
    · obtain rfl : p = l.length - 2 := by omega
      have glt : ¬ ((l.length - 2 : Nat) : Int) + 1 < (l.length : Int) - 1 := by omega
      have HE : R = some bs := by rw [hq, List.drop_eq_nil_of_le (by omega), qL_nil]; simp
      obtain ⟨a, cap, rfl, ht⟩ := own_told OWN.out hob rfl
      clear hq OWN SL IX HR
      subst HE
      generalize ((l.length - 2 : Nat) : Int) = pp at *
      go_wp2_with fail
      go_ret2
      exact ⟨⟨_, _, _, rfl, ht⟩, hb⟩
    have glt : (p : Int) + 1 < (l.length : Int) - 1 := by omega
    have hne : (inner l).drop p ≠ [] := fun h => by have := congrArg List.length h; rw [List.length_drop, IL] at this; simp at this; omega
    have x0 := IX.out (p + 1) ((p : Int) + 1) (by omega) (by omega)
    have e0 := inner_ch l p 0 (by omega)
    rw [Nat.add_zero] at e0
    have RS : Hid (∀ c u, quoR ((inner l).drop p) = some (c, u) → R = (qL (l.length - 2 - (bs.length + 1)) ((inner l).drop (p + u))).map (fun cs => (bs ++ [(c : Int)]) ++ cs)) := fun c u h => by
      rw [hq, show l.length - 2 - bs.length = (l.length - 2 - (bs.length + 1)) + 1 from by omega]
      simp only [qL]
      rw [if_neg hne, h]
      show ((qL _ (((inner l).drop p).drop u)).map fun cs => (c : Int) :: cs).map _ = _
      rw [List.drop_drop, Option.map_map]
      congr 1
      funext cs
      simp
    have RN : Hid (quoR ((inner l).drop p) = none → R = none) := fun h => by
      rw [hq, show l.length - 2 - bs.length = (l.length - 2 - (bs.length + 1)) + 1 from by omega]
      simp only [qL]
      rw [if_neg hne, h]; rfl
    have hb0 : ch l (p + 1) < 256 := UInt8.toNat_lt _
    clear hq hne HR
    obtain ⟨Q, QQ⟩ : ∃ Q, Hid (Q = quoR ((inner l).drop p)) := ⟨_, rfl⟩
    rw [← QQ.out] at RS RN
    have rl : ((inner l).drop p).length = l.length - 2 - p := by rw [List.length_drop, IL]
    have e1 : p + 1 < l.length - 2 → ch ((inner l).drop p) 1 = ch l (p + 2) := fun h => inner_ch l p 1 h
    have e2 : p + 4 ≤ l.length - 2 → (((inner l).drop p).drop 2).take 2 = (l.drop (p + 3)).take 2 := fun h => inner_two l p h
    unfold quoR at QQ
    rw [e0, rl] at QQ
    have hb1 : ch l (p + 2) < 256 := UInt8.toNat_lt _
    generalize ((inner l).drop p) = r at *
    clear rl e0
    generalize ch l (p + 1) = c0 at *
    by_cases a0 : c0 = 34 ∨ c0 < 32 ∨ 126 < c0
    · have HE : R = none := RN.out (by rw [QQ.out, if_pos (show c0 ≠ 92 by omega), if_neg (by omega)])
      have sp : ((c0 : Int) == 34) = true ∨ (((c0 : Int) == 34) = false ∧ (c0 : Int) < 32) ∨ (((c0 : Int) == 34) = false ∧ ¬ (c0 : Int) < 32 ∧ (126 : Int) < (c0 : Int)) := by simp; omega
      clear RN RS QQ a0 SL IX OWN e1 e2
      subst HE
      rcases sp with g1 | ⟨g1, g2⟩ | ⟨g1, g2, g3⟩
      all_goals
        go_wp2_with fail
        go_ret2
        exact ⟨⟨_, rfl⟩, hb⟩
    have n1 : ((c0 : Int) == 34) = false := by simp; omega
    have n2 : ¬ (c0 : Int) < 32 := by omega
    have n3 : ¬ (126 : Int) < (c0 : Int) := by omega
    by_cases a1 : c0 = 92
    rotate_left
    · have b1 : ((c0 : Int) != 92) = true := by simp; omega
      have NX : Hid (R = (qL (l.length - 2 - (bs ++ [(c0 : Int)]).length) ((inner l).drop (p + 1))).map (fun cs => (bs ++ [(c0 : Int)]) ++ cs)) := by
        show _ = _
        rw [List.length_append]
        exact RS.out c0 1 (by rw [QQ.out, if_pos a1, if_pos (by omega)])
      clear RN RS QQ SL IX a0 a1 e1 e2
      go_wp2_with (at_builtin; refine wpList_append_own _ rfl _ _ 23 rfl w.heap.size 5 i0 (.int .u8 0) 1 1 Tryz.underlying23 hi hz0 hz1 hz2 rfl (by decide) _ _ _ rfl (OWN.out.alloc _) ⟨wr.heap.size, 0, none⟩ 1 1 [.int .u8 (c0 : Int)] rfl rfl (fun j u hj => by match j, hj with | 0, hj => simp at hj; subst hj; simp [Addr.add]) (fun u hu => by simp at hu; subst hu; rfl) (by unfold maxLen; omega) (by omega) (by have := hb.size; simp; omega) ?_)
      intro v' w2 hown' hgrow _
      have hown2 : w2.ownsRow w.heap.size 5 1 v' (bs.length + 1) ((bs ++ [(c0 : Int)]).map (Value.int .u8)) := by rw [List.map_append]; exact hown'
      have OWN2 : Hid (w2.ownsRow w.heap.size 5 1 v' (bs.length + 1) ((bs ++ [(c0 : Int)]).map (Value.int .u8))) := hown2
      have hb2 : Below w.heap.size w w2 := (Below.al hb _).grown hgrow (by have := hb.size; simp; omega) (fun j hj => (OWN.out.lt j hj).1)
      clear hown' hown2 hgrow
      go_wp2_with fail
      exact ⟨⟨p + 1, bs ++ [(c0 : Int)], by omega, by go_num, by simp; omega, NX.out, fun n hn => (List.mem_append.1 hn).elim (hob n) (fun h => by simp at h; omega), hb2, by rw [List.length_append]; exact OWN2.out⟩, by simp [intOf]; omega⟩
    subst a1
    rw [if_neg (by decide)] at QQ
    clear n1 n2 n3 a0 hb0
    by_cases k1 : p + 1 < l.length - 2 ∧ (ch l (p + 2) = 34 ∨ ch l (p + 2) = 92)
    · have g1 : (p : Int) + 1 + 1 < (l.length : Int) - 1 := by omega
      have x1 := IX.out (p + 2) ((p : Int) + 1 + 1) (by omega) (by omega)
      have NX : Hid (R = (qL (l.length - 2 - (bs ++ [(ch l (p + 2) : Int)]).length) ((inner l).drop (p + 2))).map (fun cs => (bs ++ [(ch l (p + 2) : Int)]) ++ cs)) := by
        show _ = _
        rw [List.length_append]
        exact RS.out (ch l (p + 2)) 2 (by rw [QQ.out, e1 k1.1, if_pos ⟨by omega, k1.2⟩])
      have kc := k1.2
      clear RN RS QQ SL IX k1 e1 e2
      generalize ch l (p + 2) = c1 at *
      rcases kc with rfl | rfl
      · go_wp2_with (at_builtin; refine wpList_append_own _ rfl _ _ 23 rfl w.heap.size 5 i0 (.int .u8 0) 1 1 Tryz.underlying23 hi hz0 hz1 hz2 rfl (by decide) _ _ _ rfl (OWN.out.alloc _) ⟨wr.heap.size, 0, none⟩ 1 1 [.int .u8 (34 : Int)] rfl rfl (fun j u hj => by match j, hj with | 0, hj => simp at hj; subst hj; simp [Addr.add]) (fun u hu => by simp at hu; subst hu; rfl) (by unfold maxLen; omega) (by omega) (by have := hb.size; simp; omega) ?_)
        intro v' w2 hown' hgrow _
        have hown2 : w2.ownsRow w.heap.size 5 1 v' (bs.length + 1) ((bs ++ [(34 : Int)]).map (Value.int .u8)) := by rw [List.map_append]; exact hown'
        have OWN2 : Hid (w2.ownsRow w.heap.size 5 1 v' (bs.length + 1) ((bs ++ [(34 : Int)]).map (Value.int .u8))) := hown2
        have hb2 : Below w.heap.size w w2 := (Below.al hb _).grown hgrow (by have := hb.size; simp; omega) (fun j hj => (OWN.out.lt j hj).1)
        clear hown' hown2 hgrow
        go_wp2_with fail
        exact ⟨⟨p + 2, bs ++ [(34 : Int)], by omega, by go_num, by simp; omega, NX.out, fun n hn => (List.mem_append.1 hn).elim (hob n) (fun h => by simp at h; omega), hb2, by rw [List.length_append]; exact OWN2.out⟩, by simp [intOf]; omega⟩
      · go_wp2_with (at_builtin; refine wpList_append_own _ rfl _ _ 23 rfl w.heap.size 5 i0 (.int .u8 0) 1 1 Tryz.underlying23 hi hz0 hz1 hz2 rfl (by decide) _ _ _ rfl (OWN.out.alloc _) ⟨wr.heap.size, 0, none⟩ 1 1 [.int .u8 (92 : Int)] rfl rfl (fun j u hj => by match j, hj with | 0, hj => simp at hj; subst hj; simp [Addr.add]) (fun u hu => by simp at hu; subst hu; rfl) (by unfold maxLen; omega) (by omega) (by have := hb.size; simp; omega) ?_)
        intro v' w2 hown' hgrow _
        have hown2 : w2.ownsRow w.heap.size 5 1 v' (bs.length + 1) ((bs ++ [(92 : Int)]).map (Value.int .u8)) := by rw [List.map_append]; exact hown'
        have OWN2 : Hid (w2.ownsRow w.heap.size 5 1 v' (bs.length + 1) ((bs ++ [(92 : Int)]).map (Value.int .u8))) := hown2
        have hb2 : Below w.heap.size w w2 := (Below.al hb _).grown hgrow (by have := hb.size; simp; omega) (fun j hj => (OWN.out.lt j hj).1)
        clear hown' hown2 hgrow
        go_wp2_with fail
        exact ⟨⟨p + 2, bs ++ [(92 : Int)], by omega, by go_num, by simp; omega, NX.out, fun n hn => (List.mem_append.1 hn).elim (hob n) (fun h => by simp at h; omega), hb2, by rw [List.length_append]; exact OWN2.out⟩, by simp [intOf]; omega⟩
    have sp : (¬ (p : Int) + 1 + 1 < (l.length : Int) - 1) ∨ ((p : Int) + 1 + 1 < (l.length : Int) - 1 ∧ ∃ c1 : Nat, c1 = ch l (p + 2) ∧ (∀ w : World, (Instr.index 9 (.string s) (.int .i64 ((p : Int) + 1 + 1))).run Tryz.prog w = .ok (.int .u8 (c1 : Int)) w) ∧ ((c1 : Int) == 34) = false ∧ ((c1 : Int) == 92) = false) := by
      by_cases h : p + 1 < l.length - 2
      · refine .inr ⟨by omega, _, rfl, IX.out (p + 2) ((p : Int) + 1 + 1) (by omega) (by omega), ?_, ?_⟩
        · have : ch l (p + 2) ≠ 34 := fun h' => k1 ⟨h, .inl h'⟩
          simp; omega
        · have : ch l (p + 2) ≠ 92 := fun h' => k1 ⟨h, .inr h'⟩
          simp; omega
      · exact .inl (by omega)
    have nk : ¬ (2 ≤ l.length - 2 - p ∧ (ch r 1 = 34 ∨ ch r 1 = 92)) := fun h => by
      have h1 : p + 1 < l.length - 2 := two_le _ _ h.1
      have h2 := h.2
      rw [e1 h1] at h2
      exact k1 ⟨h1, h2⟩
    rw [if_neg nk] at QQ
    clear nk
    by_cases k3 : p + 4 ≤ l.length - 2
    rotate_left
    · have g3 : (l.length : Int) - 1 ≤ (p : Int) + 1 + 3 := by omega
      have HE : R = none := RN.out (by rw [QQ.out, if_neg (by omega)])
      clear RN RS QQ k1 SL IX OWN e1 e2
      subst HE
      rcases sp with g1 | ⟨g1, c1, ec, x1, q1, q2⟩
      · go_wp2_with fail
        go_ret2
        exact ⟨⟨_, rfl⟩, hb⟩
      · clear ec
        go_wp2_with fail
        go_ret2
        exact ⟨⟨_, rfl⟩, hb⟩
    have g3 : ¬ (l.length : Int) - 1 ≤ (p : Int) + 1 + 3 := by omega
    rw [e1 (by omega), e2 k3] at QQ
    rcases sp with g1 | ⟨g1, c1, ec, x1, q1, q2⟩
    · exfalso; omega
    rw [← ec] at QQ hb1
    by_cases k4 : c1 = 120
    rotate_left
    · have b4 : ((c1 : Int) != 120) = true := by simp; omega
      have HE : R = none := RN.out (by rw [QQ.out, if_neg (by omega)])
      clear RN RS QQ k1 SL IX OWN e1 e2 ec
      subst HE
      go_wp2_with fail
      go_ret2
      exact ⟨⟨_, rfl⟩, hb⟩
    subst k4
    rw [if_pos ⟨by omega, rfl⟩] at QQ
    have sl := SL.out p k3
    have wA : Hid (IntKind.i64.wrap ((p : Int) + 1 + 2) = (p : Int) + 1 + 2) := by show _ = _; rw [IntKind.wrap_i64]; omega
    have wB : Hid (IntKind.i64.wrap ((p : Int) + 1 + 4) = (p : Int) + 1 + 4) := by show _ = _; rw [IntKind.wrap_i64]; omega
    have q2l : ((l.drop (p + 3)).take 2).length = 2 := by rw [List.length_take, List.length_drop]; omega
    have hH := fun w => hexD_any ((l.drop (p + 3)).take 2) w
    have hv : hexV ((l.drop (p + 3)).take 2) = hexF true 0 ((l.drop (p + 3)).take 2) := by unfold hexV; rw [if_neg (by rintro (h | h); rw [h] at q2l; simp at q2l; omega)]
    rw [hv] at hH
    have FT : ∀ n, hexF false 0 ((l.drop (p + 3)).take 2) = some n → hexF true 0 ((l.drop (p + 3)).take 2) = some n := fun n h => hexF_ft _ 0 n h
    have SAME : ∀ n, hexF true 0 ((l.drop (p + 3)).take 2) = some n → _ := fun n h => hex_same _ n h
    have LT : ∀ n, hexF true 0 ((l.drop (p + 3)).take 2) = some n → n < 256 := fun n h => hexF2_lt true _ n (by omega) h
    rw [q2l] at SAME
    clear SL IX k1 e1 e2 ec hv
    obtain ⟨sq, HSQ⟩ : ∃ x, Hid (str ((l.drop (p + 3)).take 2) = x) := ⟨_, rfl⟩
    have tq : sq.toList = (l.drop (p + 3)).take 2 := by rw [← HSQ.out, Lib.toList_data]; rfl
    rw [HSQ.out] at hH sl
    generalize (l.drop (p + 3)).take 2 = q at *
    cases hx : hexF true 0 q with
    | none =>
      have hf : hexF false 0 q = none := by cases h : hexF false 0 q with | none => rfl | some n => rw [FT n h] at hx; cases hx
      have HE : R = none := RN.out (by rw [QQ.out, hf]; rfl)
      rw [hx] at hH
      replace hH : ∀ w : World, Calls Tryz.prog 40 #[.string sq] w fun e w' => e = .returned (.tuple #[.int .u64 0, .bool false]) ∧ w' = w := hH
      clear RN RS QQ FT SAME LT hx hf OWN
      subst HE
      go_wp2_with fail
      refine (hH _).mono ?_
      rintro e wr ⟨rfl, rfl⟩
      go_wp2_with fail
      refine reg18N _ (fun _ _ _ _ _ h => h) wr s _ _ _ _ _ _ _ _ _ _ _ _ _ _ _ _ _ _ _ _ _ _ _ _ _ _ _ _ _ _ _ _ _ _ _ _ _ _ _ _ _ _ _ _ _ _ _ _ _ _ _ _ _ _ _ _ _ _ _ _ _ _ _ _ _ _ _ _ _ _ _ _ _ _ _ _ _ _ _ _ _ _ _ _ _ _ _ _ _ _ _ _ _ _ _ _ _ _ _ _ _ _ _ _ _ _ _ _ _ _ _ _ _ _ _ _ _ _ _ _ _ _ _ _ _ ?_
      intro z hHeld
      go_wp2_with fail
      go_ret2
      exact ⟨⟨_, rfl⟩, Below.andThen hb hHeld⟩
    | some n =>
      have nlt := LT n hx
      have sm := SAME n hx
      rw [hx] at hH
      replace hH : ∀ w : World, Calls Tryz.prog 40 #[.string sq] w fun e w' => e = .returned (.tuple #[.int .u64 (n : Int), .bool true]) ∧ w' = w := hH
      have hHx0 := fun w => refHex_any (n : Int) 2 w (by omega) (by omega) (by decide)
      rw [strOfNums_str] at hHx0
      have wn : (n : Int) % 256 = (n : Int) := by omega
      clear LT SAME FT hx
      rcases sm with ⟨hf, he⟩ | ⟨hf, he⟩
      rotate_left
      · have HE : R = none := RN.out (by rw [QQ.out, hf]; rfl)
        obtain ⟨sv, HSV⟩ : ∃ x, Hid (str (byteL (hexR (n : Int) 2)) = x) := ⟨_, rfl⟩
        have tv : ¬ sv.toList = q := by rw [← HSV.out, Lib.toList_data]; simpa [str] using he
        rw [HSV.out] at hHx0
        have hHx : ∀ w : World, Calls Tryz.prog 67 #[.int .u64 (n : Int), .int .i64 2] w fun e w' => e = .returned (.string sv) ∧ Below w.heap.size w w' := hHx0
        clear RN RS QQ hf he hHx0 OWN nlt
        subst HE
        go_wp2_with fail
        refine (hH _).mono ?_
        rintro e wr ⟨rfl, rfl⟩
        go_wp2_with fail
        refine reg18U _ (fun _ _ _ _ _ h => h) wr s _ _ _ n sq sv q wA.out wB.out sl tq hHx tv _ _ _ _ _ _ _ _ _ _ _ _ _ _ _ _ _ _ _ _ _ _ _ _ _ _ _ _ _ _ _ _ _ _ _ _ _ _ _ _ _ _ _ _ _ _ _ _ _ _ _ _ _ _ _ _ _ _ _ _ _ _ _ _ _ _ _ _ _ _ _ _ _ _ _ _ _ _ _ _ _ _ _ _ _ _ _ _ _ _ _ _ _ _ _ _ _ _ _ _ _ _ _ _ _ _ _ _ _ _ _ _ _ _ _ _ _ _ _ _ _ _ _ _ ?_
        intro z hHeld
        go_wp2_with fail
        go_ret2
        exact ⟨⟨_, rfl⟩, Below.andThen hb hHeld⟩
      rw [he, HSQ.out] at hHx0
      have hHx : ∀ w : World, Calls Tryz.prog 67 #[.int .u64 (n : Int), .int .i64 2] w fun e w' => e = .returned (.string sq) ∧ Below w.heap.size w w' := hHx0
      by_cases k5 : 32 ≤ n ∧ n ≤ 126
      · have HE : R = none := RN.out (by rw [QQ.out, hf]; show (if 32 ≤ n ∧ n ≤ 126 then none else some (n, 4)) = none; rw [if_pos k5])
        have g6 : (32 : Int) ≤ (n : Int) := by omega
        have g7 : (n : Int) ≤ 126 := by omega
        have g6n : 32 ≤ n := k5.1
        have g7n : n ≤ 126 := k5.2
        clear RN RS QQ hf he hHx0 OWN nlt k5
        subst HE
        go_wp2_with fail
        refine (hH _).mono ?_
        rintro e wr ⟨rfl, rfl⟩
        go_wp2_with fail
        refine reg18P _ (fun _ _ _ _ _ h => h) wr s _ _ _ n sq q wA.out wB.out sl tq hHx (by omega) (by omega) _ _ _ _ _ _ _ _ _ _ _ _ _ _ _ _ _ _ _ _ _ _ _ _ _ _ _ _ _ _ _ _ _ _ _ _ _ _ _ _ _ _ _ _ _ _ _ _ _ _ _ _ _ _ _ _ _ _ _ _ _ _ _ _ _ _ _ _ _ _ _ _ _ _ _ _ _ _ _ _ _ _ _ _ _ _ _ _ _ _ _ _ _ _ _ _ _ _ _ _ _ _ _ _ _ _ _ _ _ _ _ _ _ _ _ _ _ _ _ _ _ _ _ _ ?_
        intro z hHeld
        go_wp2_with fail
        go_ret2
        exact ⟨⟨_, rfl⟩, Below.andThen hb hHeld⟩
      have NX : Hid (R = (qL (l.length - 2 - (bs ++ [(n : Int)]).length) ((inner l).drop (p + 4))).map (fun cs => (bs ++ [(n : Int)]) ++ cs)) := by
        show _ = _
        rw [List.length_append]
        exact RS.out n 4 (by rw [QQ.out, hf]; show (if 32 ≤ n ∧ n ≤ 126 then none else some (n, 4)) = some (n, 4); rw [if_neg k5])
      have sp2 : ¬ 32 ≤ n ∨ (32 ≤ n ∧ ¬ n ≤ 126) := by omega
      clear RN RS QQ hf he hHx0 k5
      rcases sp2 with g6n | ⟨g6n, g7n⟩
      · have g6 : ¬ (32 : Int) ≤ (n : Int) := by omega
        go_wp2_with fail
        refine (hH _).mono ?_
        rintro e wr ⟨rfl, rfl⟩
        go_wp2_with fail
        refine reg18L _ (fun _ _ _ _ _ h => h) wr s _ _ _ n sq q wA.out wB.out sl tq hHx (by omega) _ _ _ _ _ _ _ _ _ _ _ _ _ _ _ _ _ _ _ _ _ _ _ _ _ _ _ _ _ _ _ _ _ _ _ _ _ _ _ _ _ _ _ _ _ _ _ _ _ _ _ _ _ _ _ _ _ _ _ _ _ _ _ _ _ _ _ _ _ _ _ _ _ _ _ _ _ _ _ _ _ _ _ _ _ _ _ _ _ _ _ _ _ _ _ _ _ _ _ _ _ _ _ _ _ _ _ _ _ _ _ _ _ _ _ _ _ _ _ _ _ _ _ _ ?_
        intro z hHeld
        have OWN3 := ownD_next OWN.out hHeld
        have OWN : Hid (z.ownsRow w.heap.size 5 1 u4 bs.length (bs.map (Value.int .u8))) := OWN3
        have hb : Below w.heap.size w z := Below.andThen hb hHeld
        clear OWN3 hHeld
        go_wp2_with (at_builtin; refine wpList_append_own _ rfl _ _ 23 rfl w.heap.size 5 i0 (.int .u8 0) 1 1 Tryz.underlying23 hi hz0 hz1 hz2 rfl (by decide) _ _ _ rfl (OWN.out.alloc _) ⟨z.heap.size, 0, none⟩ 1 1 [.int .u8 (n : Int)] rfl rfl (fun j u hj => by match j, hj with | 0, hj => simp at hj; subst hj; simp [Addr.add]) (fun u hu => by simp at hu; subst hu; rfl) (by unfold maxLen; omega) (by omega) (by have := hb.size; simp; omega) ?_)
        intro v' w2 hown' hgrow _
        have hown2 : w2.ownsRow w.heap.size 5 1 v' (bs.length + 1) ((bs ++ [(n : Int)]).map (Value.int .u8)) := by rw [List.map_append]; exact hown'
        have OWN2 : Hid (w2.ownsRow w.heap.size 5 1 v' (bs.length + 1) ((bs ++ [(n : Int)]).map (Value.int .u8))) := hown2
        have hb2 : Below w.heap.size w w2 := (Below.al hb _).grown hgrow (by have := hb.size; simp; omega) (fun j hj => (OWN.out.lt j hj).1)
        clear hown' hown2 hgrow
        go_wp2_with fail
        exact ⟨⟨p + 4, bs ++ [(n : Int)], by omega, by go_num, by simp; omega, NX.out, fun n hn => (List.mem_append.1 hn).elim (hob n) (fun h => by simp at h; omega), hb2, by rw [List.length_append]; exact OWN2.out⟩, by simp [intOf]; omega⟩
      · have g6 : (32 : Int) ≤ (n : Int) := by omega
        have g7 : ¬ (n : Int) ≤ 126 := by omega
        go_wp2_with fail
        refine (hH _).mono ?_
        rintro e wr ⟨rfl, rfl⟩
        go_wp2_with fail
        refine reg18G _ (fun _ _ _ _ _ h => h) wr s _ _ _ n sq q wA.out wB.out sl tq hHx (by omega) (by omega) _ _ _ _ _ _ _ _ _ _ _ _ _ _ _ _ _ _ _ _ _ _ _ _ _ _ _ _ _ _ _ _ _ _ _ _ _ _ _ _ _ _ _ _ _ _ _ _ _ _ _ _ _ _ _ _ _ _ _ _ _ _ _ _ _ _ _ _ _ _ _ _ _ _ _ _ _ _ _ _ _ _ _ _ _ _ _ _ _ _ _ _ _ _ _ _ _ _ _ _ _ _ _ _ _ _ _ _ _ _ _ _ _ _ _ _ _ _ _ _ _ _ _ _ ?_
        intro z hHeld
        have OWN3 := ownD_next OWN.out hHeld
        have OWN : Hid (z.ownsRow w.heap.size 5 1 u4 bs.length (bs.map (Value.int .u8))) := OWN3
        have hb : Below w.heap.size w z := Below.andThen hb hHeld
        clear OWN3 hHeld
        go_wp2_with (at_builtin; refine wpList_append_own _ rfl _ _ 23 rfl w.heap.size 5 i0 (.int .u8 0) 1 1 Tryz.underlying23 hi hz0 hz1 hz2 rfl (by decide) _ _ _ rfl (OWN.out.alloc _) ⟨z.heap.size, 0, none⟩ 1 1 [.int .u8 (n : Int)] rfl rfl (fun j u hj => by match j, hj with | 0, hj => simp at hj; subst hj; simp [Addr.add]) (fun u hu => by simp at hu; subst hu; rfl) (by unfold maxLen; omega) (by omega) (by have := hb.size; simp; omega) ?_)
        intro v' w2 hown' hgrow _
        have hown2 : w2.ownsRow w.heap.size 5 1 v' (bs.length + 1) ((bs ++ [(n : Int)]).map (Value.int .u8)) := by rw [List.map_append]; exact hown'
        have OWN2 : Hid (w2.ownsRow w.heap.size 5 1 v' (bs.length + 1) ((bs ++ [(n : Int)]).map (Value.int .u8))) := hown2
        have hb2 : Below w.heap.size w w2 := (Below.al hb _).grown hgrow (by have := hb.size; simp; omega) (fun j hj => (OWN.out.lt j hj).1)
        clear hown' hown2 hgrow
        go_wp2_with fail
        exact ⟨⟨p + 4, bs ++ [(n : Int)], by omega, by go_num, by simp; omega, NX.out, fun n hn => (List.mem_append.1 hn).elim (hob n) (fun h => by simp at h; omega), hb2, by rw [List.length_append]; exact OWN2.out⟩, by simp [intOf]; omega⟩
#print axioms unquotedD_any
end Go.Proofs.YtkfmmpolcjbnbaaGreatDoor
