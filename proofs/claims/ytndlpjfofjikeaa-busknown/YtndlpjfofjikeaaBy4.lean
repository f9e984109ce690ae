/-
  The walk of the sort's pdqsort.
-/
import Derived.Test.YtndlpjfofjikeaaBf4
import Derived.Test.YtndlpjfofjikeaaBg4
import Derived.Test.YtndlpjfofjikeaaBx4
namespace Go.Proofs.Ytndlpjfofjikeaa
open Go.RowKit

abbrev pdB (d : Array Sn) (a b L : Nat) (wb wp : Bool) : Array Sn := Go.Sort.pdq aheadB d a b L wb wp
def rest3 (d3 : Array Sn) (a b pivot limit : Nat) (wasBalanced wasPartitioned : Bool) : Array Sn :=
  if a > 0 && !aheadB d3[a - 1]! d3[pivot]! then
    match Go.Sort.partitionEqual aheadB d3 a b pivot with
    | (mid, d4) => if _h : a < mid ∧ mid ≤ b then pdB d4 mid b limit wasBalanced wasPartitioned else d4
  else
    match Go.Sort.partition aheadB d3 a b pivot with
    | (mid, alreadyPartitioned, d4) =>
      if _h : a ≤ mid ∧ mid < b then
        if mid - a < b - mid then
          pdB (pdB d4 a mid limit true true) (mid + 1) b limit (decide (mid - a ≥ (b - a) / 8)) alreadyPartitioned
        else
          pdB (pdB d4 (mid + 1) b limit true true) a mid limit (decide (b - mid ≥ (b - a) / 8)) alreadyPartitioned
      else d4
def rest2 (d1 : Array Sn) (a b limit : Nat) (wasBalanced wasPartitioned : Bool) : Array Sn :=
  let c := Go.Sort.choosePivot aheadB d1 a b
  let d2 := if c.2 = .decreasing then Go.Sort.reverseRange d1 a b else d1
  let pivot := if c.2 = .decreasing then (b - 1) - (c.1 - a) else c.1
  let hint := if c.2 = .decreasing then Go.Sort.Hint.increasing else c.2
  let pi := if wasBalanced && wasPartitioned && hint = .increasing then Go.Sort.partialInsertionSort aheadB d2 a b else (d2, false)
  if pi.2 then pi.1 else rest3 pi.1 a b pivot limit wasBalanced wasPartitioned
theorem pdq_ins (d : Array Sn) (a b L : Nat) (wb wp : Bool) (h : b - a ≤ 12) : pdB d a b L wb wp = Go.Sort.insertionSort aheadB d a b := by
  unfold pdB Go.Sort.pdq
  rw [if_pos h]
theorem pdq_heap (d : Array Sn) (a b L : Nat) (wb wp : Bool) (h : ¬ b - a ≤ 12) (h0 : L = 0) : pdB d a b L wb wp = Go.Sort.heapSort aheadB d a b := by
  unfold pdB Go.Sort.pdq
  rw [if_neg h, if_pos h0]
theorem pdq_go (d : Array Sn) (a b L : Nat) (wb wp : Bool) (h : ¬ b - a ≤ 12) (h0 : ¬ L = 0) : pdB d a b L wb wp = rest2 (if !wb then Go.Sort.breakPatterns d a b else d) a b (if !wb then L - 1 else L) wb wp := by
  conv => lhs; unfold pdB Go.Sort.pdq
  rw [if_neg h, if_neg h0]
  rfl
theorem r2_dec (d : Array Sn) (a b L pv : Nat) (wb wp : Bool) (hc : Go.Sort.choosePivot aheadB d a b = (pv, .decreasing)) (hw : (wb && wp) = false) : rest2 d a b L wb wp = rest3 (Go.Sort.reverseRange d a b) a b ((b - 1) - (pv - a)) L wb wp := by
  unfold rest2
  rw [hc]
  simp [hw]
theorem r2_not (d : Array Sn) (a b L pv : Nat) (wb wp : Bool) (hi : Go.Sort.Hint) (hc : Go.Sort.choosePivot aheadB d a b = (pv, hi)) (hd : ¬ hi = .decreasing) (hw : (wb && wp) = false) : rest2 d a b L wb wp = rest3 d a b pv L wb wp := by
  unfold rest2
  rw [hc]
  simp [hw, hd]
theorem r2_unk (d : Array Sn) (a b L pv : Nat) (hc : Go.Sort.choosePivot aheadB d a b = (pv, .unknown)) : rest2 d a b L true true = rest3 d a b pv L true true := by
  unfold rest2
  rw [hc]
  simp
theorem r2_pid (d : Array Sn) (a b L pv : Nat) (hc : Go.Sort.choosePivot aheadB d a b = (pv, .decreasing)) (D : Array Sn) (B : Bool) (hp : Go.Sort.partialInsertionSort aheadB (Go.Sort.reverseRange d a b) a b = (D, B)) : rest2 d a b L true true = if B then D else rest3 D a b ((b - 1) - (pv - a)) L true true := by
  unfold rest2
  rw [hc]
  simp [hp]
theorem r2_pii (d : Array Sn) (a b L pv : Nat) (hc : Go.Sort.choosePivot aheadB d a b = (pv, .increasing)) (D : Array Sn) (B : Bool) (hp : Go.Sort.partialInsertionSort aheadB d a b = (D, B)) : rest2 d a b L true true = if B then D else rest3 D a b pv L true true := by
  unfold rest2
  rw [hc]
  simp [hp]
theorem r3_eq (d : Array Sn) (q b pv L : Nat) (wb wp : Bool) (hl : aheadB d[q]! d[pv]! = false) (mid : Nat) (d4 : Array Sn) (hp : Go.Sort.partitionEqual aheadB d (q + 1) b pv = (mid, d4)) (h1 : q + 1 < mid) (h2 : mid ≤ b) : rest3 d (q + 1) b pv L wb wp = pdB d4 mid b L wb wp := by
  unfold rest3
  rw [if_pos (by simp [hl]), hp]
  dsimp only
  rw [dif_pos ⟨h1, h2⟩]
theorem r3_lt (d : Array Sn) (a b pv L : Nat) (wb wp : Bool) (hl : ¬ (0 < a ∧ aheadB d[a - 1]! d[pv]! = false)) (mid : Nat) (ap : Bool) (d4 : Array Sn) (hp : Go.Sort.partition aheadB d a b pv = (mid, ap, d4)) (h1 : a ≤ mid) (h2 : mid < b) (h3 : mid - a < b - mid) : rest3 d a b pv L wb wp = pdB (pdB d4 a mid L true true) (mid + 1) b L (decide (mid - a ≥ (b - a) / 8)) ap := by
  unfold rest3
  rw [if_neg (by simpa using hl), hp]
  dsimp only
  rw [dif_pos ⟨h1, h2⟩, if_pos h3]
theorem r3_ge (d : Array Sn) (a b pv L : Nat) (wb wp : Bool) (hl : ¬ (0 < a ∧ aheadB d[a - 1]! d[pv]! = false)) (mid : Nat) (ap : Bool) (d4 : Array Sn) (hp : Go.Sort.partition aheadB d a b pv = (mid, ap, d4)) (h1 : a ≤ mid) (h2 : mid < b) (h3 : ¬ mid - a < b - mid) : rest3 d a b pv L wb wp = pdB (pdB d4 (mid + 1) b L true true) a mid L (decide (b - mid ≥ (b - a) / 8)) ap := by
  unfold rest3
  rw [if_neg (by simpa using hl), hp]
  dsimp only
  rw [dif_pos ⟨h1, h2⟩, if_neg h3]

set_option linter.unusedSimpArgs false in
set_option maxHeartbeats 4000000 in
set_option maxRecDepth 100000 in
theorem pdqsort_n {base g N cap : Nat} (hN : N ≤ 1000000) (n : Nat) : ∀ {w : World} {d : Array Sn} (_ : IsA w base g N cap d) (a b L : Nat) (_ : a ≤ b) (_ : b ≤ N) (_ : b - a ≤ n) (_ : L ≤ 1000),
    Calls Try.prog 46 #[.iface 59 (.agg #[.slice (some ⟨g, 0, none⟩) N cap]), .int .i64 (a : Int), .int .i64 (b : Int), .int .i64 (L : Int)] w fun e w' => e = .returned (.tuple #[]) ∧ IsA w' base g N cap (pdB d a b L true true) ∧ Kp [g] w w' := by
  induction n using Nat.strongRecOn with
  | _ n ih =>
  intro w d h a b L hab hb hn hL
  have IH : Hid (∀ (m : Nat), m < n → ∀ {w : World} {d : Array Sn} (_ : IsA w base g N cap d) (a b L : Nat) (_ : a ≤ b) (_ : b ≤ N) (_ : b - a ≤ m) (_ : L ≤ 1000),
    Calls Try.prog 46 #[.iface 59 (.agg #[.slice (some ⟨g, 0, none⟩) N cap]), .int .i64 (a : Int), .int .i64 (b : Int), .int .i64 (L : Int)] w fun e w' => e = .returned (.tuple #[]) ∧ IsA w' base g N cap (pdB d a b L true true) ∧ Kp [g] w w') := fun m hm => ih m hm
  clear ih
  obtain ⟨T, hT⟩ : ∃ T, Hid (T = pdB d a b L true true) := ⟨_, rfl⟩
  rw [← hT.out]
  have M1 := meth_lessV 234 (by decide) (some ⟨g, 0, none⟩) N cap
  have INI : Hid (∃ (a' b' L' : Nat) (wb wp : Bool) (e : Array Sn), Value.int .i64 (a : Int) = .int .i64 (a' : Int) ∧ Value.int .i64 (b : Int) = .int .i64 (b' : Int) ∧ Value.int .i64 (L : Int) = .int .i64 (L' : Int) ∧ Value.bool true = .bool wb ∧ Value.bool true = .bool wp ∧ a ≤ a' ∧ b' ≤ b ∧ a' ≤ b' ∧ L' ≤ 1000 ∧ b' - a' ≤ n ∧ pdB e a' b' L' wb wp = T ∧ IsA w base g N cap e ∧ Kp [g] w w) := ⟨a, b, L, true, true, d, rfl, rfl, rfl, rfl, rfl, Nat.le_refl _, Nat.le_refl _, hab, hL, hn, hT.out.symm, h, Kp.refl _ _⟩
  clear h hT hn hL
  go_enter Try.func46, Try.ntmps46
  go_wp2_with fail
  go_loopw [1, 2, 3, 8, 9] (fun u1 u2 u3 u4 u5 wr => ∃ (a' b' L' : Nat) (wb wp : Bool) (e : Array Sn), u1 = .int .i64 (a' : Int) ∧ u2 = .int .i64 (b' : Int) ∧ u3 = .int .i64 (L' : Int) ∧ u4 = .bool wb ∧ u5 = .bool wp ∧ a ≤ a' ∧ b' ≤ b ∧ a' ≤ b' ∧ L' ≤ 1000 ∧ b' - a' ≤ n ∧ pdB e a' b' L' wb wp = T ∧ IsA wr base g N cap e ∧ Kp [g] w wr) (fun u1 u2 _ _ _ _ => (intOf u2 - intOf u1).toNat)
  case atStart => exact INI.out
  case round =>
    clear INI
    obtain ⟨a', b', L', wb, wp, e, rfl, rfl, rfl, rfl, rfl, ha1, hb1, hab1, hL1, hn1, he, hA, hK⟩ := hrel
    obtain ⟨ln, hln⟩ : ∃ ln, Hid (ln = b' - a') := ⟨_, rfl⟩
    have wl : IntKind.i64.wrap ((b' : Int) - (a' : Int)) = (ln : Int) := by rw [hln.out, IntKind.wrap_i64]; omega
    by_cases h12 : ln ≤ 12
    · have g1 : (ln : Int) ≤ 12 := by omega
      have eT : Go.Sort.insertionSort aheadB e a' b' = T := by rw [← he]; exact (pdq_ins e a' b' L' wb wp (by rw [← hln.out]; exact h12)).symm
      have C := insertionSort_any hA a' b' hab1 (by omega) hN
      rw [eT] at C
      have HK : Hid (Kp [g] w wr) := hK
      clear hA hK he eT
      go_wp2_with fail
      refine C.mono ?_
      rintro e9 z ⟨rfl, A2, K2⟩
      have R2 : Hid (IsA z base g N cap T ∧ Kp [g] w z) := ⟨A2, HK.out.trans K2⟩
      clear C A2 K2 HK
      go_wp2_with fail
      first | go_end0 | refine bodyPost_ret (v := .tuple #[]) (by simp [results, Try.results46, go_sem]) rfl ?_
      exact ⟨rfl, R2.out⟩
    have g1 : ¬ (ln : Int) ≤ 12 := by omega
    have hgap : a' + 12 < b' := by have := hln.out; omega
    by_cases h0 : L' = 0
    · have g2 : (L' : Int) = 0 := by omega
      have eT : Go.Sort.heapSort aheadB e a' b' = T := by rw [← he]; exact (pdq_heap e a' b' L' wb wp (by rw [← hln.out]; exact h12) h0).symm
      have C := heapSort_any hA a' b' hab1 (by omega) hN
      rw [eT] at C
      have HK : Hid (Kp [g] w wr) := hK
      clear hA hK he eT
      go_wp2_with fail
      refine C.mono ?_
      rintro e9 z ⟨rfl, A2, K2⟩
      have R2 : Hid (IsA z base g N cap T ∧ Kp [g] w z) := ⟨A2, HK.out.trans K2⟩
      clear C A2 K2 HK
      go_wp2_with fail
      first | go_end0 | refine bodyPost_ret (v := .tuple #[]) (by simp [results, Try.results46, go_sem]) rfl ?_
      exact ⟨rfl, R2.out⟩
    have g2 : ¬ (L' : Int) = 0 := by omega
    rw [pdq_go e a' b' L' wb wp (by rw [← hln.out]; exact h12) h0] at he
    cases wb with
    | false =>
      obtain ⟨L2, hL2⟩ : ∃ L2, Hid (L2 = L' - 1) := ⟨_, rfl⟩
      obtain ⟨d1, hd1⟩ : ∃ d1, Hid (d1 = Go.Sort.breakPatterns e a' b') := ⟨_, rfl⟩
      have HE : Hid (rest2 d1 a' b' L2 false wp = T) := by show _ = T; rw [hd1.out, hL2.out]; exact he
      have w1 : IntKind.i64.wrap ((L' : Int) - 1) = (L2 : Int) := by have := hL2.out; rw [IntKind.wrap_i64]; omega
      have lL2 : L2 ≤ 1000 := by have := hL2.out; omega
      clear he
      have C := breakPatterns_any hA a' b' (by omega) (by omega) hN
      have HK : Hid (Kp [g] w wr) := hK
      clear hA hK
      go_wp2_with fail
      refine C.mono ?_
      rintro e9 z0 ⟨rfl, A5, K5⟩
      have hA : IsA z0 base g N cap (Go.Sort.breakPatterns e a' b') := A5
      have hK : Kp [g] w z0 := HK.out.trans K5
      clear C A5 K5 HK
      rw [← hd1.out] at hA
      obtain ⟨⟨pv0, hint⟩, hc⟩ : ∃ c, Hid (c = Go.Sort.choosePivot aheadB d1 a' b') := ⟨_, rfl⟩
      obtain ⟨pv1, pv2⟩ : a' ≤ pv0 ∧ pv0 < b' := by
        have := Go.Sort.choosePivot_holds aheadB d1 a' b' (by omega)
        rw [← hc.out] at this
        exact this
      have C := choosePivot_any hA a' b' (by omega) hN (by omega)
      rw [← hc.out] at C
      dsimp only at C
      have HK : Hid (Kp [g] w z0) := hK
      clear hA hK
      go_wp2_with fail
      refine C.mono ?_
      rintro e9 z1 ⟨rfl, hA, bz⟩
      have hK : Kp [g] w z1 := HK.out.trans (Kp.of bz)
      clear C bz HK
      by_cases hd : hint = .decreasing
      · subst hd
        have hv : hintV .decreasing = 2 := rfl
        have pw1 := pv1
        have pw2 := pv2
        clear pv1 pv2
        obtain ⟨d2, hd2⟩ : ∃ d2, Hid (d2 = Go.Sort.reverseRange d1 a' b') := ⟨_, rfl⟩
        obtain ⟨B1, hB1⟩ : ∃ B1, Hid (B1 = b' - 1) := ⟨_, rfl⟩
        obtain ⟨pa, hpa⟩ : ∃ pa, Hid (pa = pv0 - a') := ⟨_, rfl⟩
        obtain ⟨pv, hpv⟩ : ∃ pv, Hid (pv = (b' - 1) - (pv0 - a')) := ⟨_, rfl⟩
        have w2 : IntKind.i64.wrap ((b' : Int) - 1) = (B1 : Int) := by have := hB1.out; rw [IntKind.wrap_i64]; omega
        have w3 : IntKind.i64.wrap ((pv0 : Int) - (a' : Int)) = (pa : Int) := by have := hpa.out; rw [IntKind.wrap_i64]; omega
        have w4 : IntKind.i64.wrap ((B1 : Int) - (pa : Int)) = (pv : Int) := by have := hpa.out; have := hB1.out; have := hpv.out; rw [IntKind.wrap_i64]; omega
        have pv1 : a' ≤ pv := by have := hpv.out; omega
        have pv2 : pv < b' := by have := hpv.out; omega
        have C := reverseRange_any hA a' b' (by omega) (by omega) hN
        have HK : Hid (Kp [g] w z1) := hK
        clear hA hK
        go_wp2_with fail
        refine C.mono ?_
        rintro e9 z2 ⟨rfl, A5, K5⟩
        have hA : IsA z2 base g N cap (Go.Sort.reverseRange d1 a' b') := A5
        have hK : Kp [g] w z2 := HK.out.trans K5
        clear C A5 K5 HK
        rw [← hd2.out] at hA
        have HE2 : Hid (rest3 d2 a' b' pv L2 false wp = T) := by
          show _ = T
          rw [← HE.out, r2_dec d1 a' b' L2 pv0 false wp hc.out.symm (by simp), hd2.out, hpv.out]
        clear HE
        have HE := HE2
        clear HE2
        by_cases h0 : a' = 0
        · have g3 : ¬ (a' : Int) > 0 := by omega
          have g4 : ¬ 0 < (a' : Int) := by omega
          have HL : Hid (¬ (0 < a' ∧ aheadB d2[a' - 1]! d2[pv]! = false)) := fun h => by have := h.1; omega
          have h00 : Hid (a' = 0) := h0
          clear h0
          obtain ⟨⟨mid, ap, d4⟩, hR⟩ : ∃ R, Hid (R = Go.Sort.partition aheadB d2 a' b' pv) := ⟨_, rfl⟩
          have C := partition_any hA a' b' pv pv1 pv2 (by omega) hN
          rw [← hR.out] at C
          have HK : Hid (Kp [g] w z2) := hK
          clear hA hK
          go_wp2_with fail
          refine C.mono ?_
          rintro e9 z5 ⟨rfl, A5, K5, m1, m2⟩
          have K6 : Hid (Kp [g] w z5) := HK.out.trans K5
          clear C K5 HK
          obtain ⟨lf, hlf⟩ : ∃ lf, Hid (lf = mid - a') := ⟨_, rfl⟩
          obtain ⟨rt, hrt⟩ : ∃ rt, Hid (rt = b' - mid) := ⟨_, rfl⟩
          obtain ⟨th, hth⟩ : ∃ th, Hid (th = ln / 8) := ⟨_, rfl⟩
          have w5 : IntKind.i64.wrap ((mid : Int) - (a' : Int)) = (lf : Int) := by rw [hlf.out, IntKind.wrap_i64]; omega
          have w6 : IntKind.i64.wrap ((b' : Int) - (mid : Int)) = (rt : Int) := by rw [hrt.out, IntKind.wrap_i64]; omega
          have w7 : (ln : Int).tdiv 8 = (th : Int) := by rw [hth.out, Int.tdiv_eq_ediv_of_nonneg (by omega)]; omega
          have w8 : IntKind.i64.wrap (th : Int) = (th : Int) := by have := hth.out; have := hln.out; rw [IntKind.wrap_i64]; omega
          have w9 : IntKind.i64.wrap ((mid : Int) + 1) = ((mid + 1 : Nat) : Int) := by rw [IntKind.wrap_i64]; omega
          by_cases hlr : lf < rt
          · have gl : (lf : Int) < (rt : Int) := by omega
            have HE2 : Hid (pdB (pdB d4 a' mid L2 true true) (mid + 1) b' L2 (decide (mid - a' ≥ (b' - a') / 8)) ap = T) := by
              show _ = T
              rw [← HE.out]
              exact (r3_lt d2 a' b' pv L2 false wp HL.out mid ap d4 hR.out.symm m1 m2 (by have := hlf.out; have := hrt.out; omega)).symm
            have C := IH.out (mid - a') (by have := hln.out; omega) A5 a' mid L2 m1 (by omega) (Nat.le_refl _) (by omega)
            clear A5 HE hR
            go_wp2_with fail
            refine C.mono ?_
            rintro e9 z6 ⟨rfl, A7, K7⟩
            have R2 : Hid (IsA z6 base g N cap (pdB d4 a' mid L2 true true) ∧ Kp [g] w z6) := ⟨A7, K6.out.trans K7⟩
            clear C A7 K7 K6
            go_wp2_with fail
            refine ⟨⟨mid + 1, b', L2, _, ap, _, rfl, rfl, rfl, rfl, rfl, by omega, by omega, by omega, by omega, by have := hln.out; omega, (congrArg (fun x => pdB _ (mid + 1) b' L2 x ap) ?_).trans HE2.out, R2.out.1, R2.out.2⟩, by simp [intOf]; omega⟩
            have := hlf.out; have := hth.out; have := hln.out
            first | (rw [decide_eq_decide]; omega) | (simp; omega)
          · have gl : ¬ (lf : Int) < (rt : Int) := by omega
            have HE2 : Hid (pdB (pdB d4 (mid + 1) b' L2 true true) a' mid L2 (decide (b' - mid ≥ (b' - a') / 8)) ap = T) := by
              show _ = T
              rw [← HE.out]
              exact (r3_ge d2 a' b' pv L2 false wp HL.out mid ap d4 hR.out.symm m1 m2 (by have := hlf.out; have := hrt.out; omega)).symm
            have C := IH.out (b' - (mid + 1)) (by have := hln.out; omega) A5 (mid + 1) b' L2 (by omega) (by omega) (Nat.le_refl _) (by omega)
            clear A5 HE hR
            go_wp2_with fail
            refine C.mono ?_
            rintro e9 z6 ⟨rfl, A7, K7⟩
            have R2 : Hid (IsA z6 base g N cap (pdB d4 (mid + 1) b' L2 true true) ∧ Kp [g] w z6) := ⟨A7, K6.out.trans K7⟩
            clear C A7 K7 K6
            go_wp2_with fail
            refine ⟨⟨a', mid, L2, _, ap, _, rfl, rfl, rfl, rfl, rfl, by omega, by omega, by omega, by omega, by have := hln.out; omega, (congrArg (fun x => pdB _ a' mid L2 x ap) ?_).trans HE2.out, R2.out.1, R2.out.2⟩, by simp [intOf]; omega⟩
            have := hrt.out; have := hth.out; have := hln.out
            first | (rw [decide_eq_decide]; omega) | (simp; omega)
        have g3 : (a' : Int) > 0 := by omega
        have g4 : 0 < (a' : Int) := by omega
        obtain ⟨q, hq⟩ : ∃ q, Hid (a' = q + 1) := ⟨a' - 1, by show a' = _; omega⟩
        have wq : IntKind.i64.wrap ((a' : Int) - 1) = (q : Int) := by have := hq.out; rw [IntKind.wrap_i64]; omega
        have C := lessA hA q pv (by have := hq.out; omega) (by omega)
        have RES : Hid (∀ z, Below z2.heap.size z2 z → IsA z base g N cap d2 ∧ Kp [g] w z) := fun z hz => ⟨hA.next hz, hK.trans (Kp.of hz)⟩
        clear hA hK
        cases hl : aheadB d2[q]! d2[pv]! with
        | false =>
          rw [hl] at C
          have HLL : Hid _ := hl
          clear hl
          go_wp2_with fail
          refine C.mono ?_
          rintro e9 z4 ⟨rfl, bz⟩
          obtain ⟨hA, hK⟩ := RES.out z4 bz
          clear C bz RES
          obtain ⟨⟨mid, d4⟩, hR⟩ : ∃ R, Hid (R = Go.Sort.partitionEqual aheadB d2 a' b' pv) := ⟨_, rfl⟩
          have C := partitionEqual_any hA a' b' pv pv1 pv2 (by omega) hN
          rw [← hR.out] at C
          have HK : Hid (Kp [g] w z4) := hK
          clear hA hK
          go_wp2_with fail
          refine C.mono ?_
          rintro e9 z5 ⟨rfl, A5, K5, m1, m2⟩
          have R2 : Hid (IsA z5 base g N cap d4 ∧ Kp [g] w z5) := ⟨A5, HK.out.trans K5⟩
          have HE2 : Hid (pdB d4 mid b' L2 false wp = T) := by
            show _ = T
            rw [← HE.out]
            have hq' := hq.out
            have hR' := hR.out
            have hL' := HLL.out
            subst hq'
            exact (r3_eq d2 q b' pv L2 false wp hL' mid d4 hR'.symm m1 m2).symm
          clear C A5 K5 HK HE hR HLL
          go_wp2_with fail
          exact ⟨⟨mid, b', L2, false, wp, _, rfl, rfl, rfl, rfl, rfl, by omega, by omega, by omega, by omega, by have := hln.out; omega, HE2.out, R2.out.1, R2.out.2⟩, by simp [intOf]; omega⟩
        | true =>
          rw [hl] at C
          have HL : Hid (¬ (0 < a' ∧ aheadB d2[a' - 1]! d2[pv]! = false)) := fun h => by
            have h2 := h.2
            rw [show a' - 1 = q from by have := hq.out; omega, hl] at h2
            cases h2
          clear hl
          go_wp2_with fail
          refine C.mono ?_
          rintro e9 z4 ⟨rfl, bz⟩
          obtain ⟨hA, hK⟩ := RES.out z4 bz
          clear C bz RES
          obtain ⟨⟨mid, ap, d4⟩, hR⟩ : ∃ R, Hid (R = Go.Sort.partition aheadB d2 a' b' pv) := ⟨_, rfl⟩
          have C := partition_any hA a' b' pv pv1 pv2 (by omega) hN
          rw [← hR.out] at C
          have HK : Hid (Kp [g] w z4) := hK
          clear hA hK
          go_wp2_with fail
          refine C.mono ?_
          rintro e9 z5 ⟨rfl, A5, K5, m1, m2⟩
          have K6 : Hid (Kp [g] w z5) := HK.out.trans K5
          clear C K5 HK
          obtain ⟨lf, hlf⟩ : ∃ lf, Hid (lf = mid - a') := ⟨_, rfl⟩
          obtain ⟨rt, hrt⟩ : ∃ rt, Hid (rt = b' - mid) := ⟨_, rfl⟩
          obtain ⟨th, hth⟩ : ∃ th, Hid (th = ln / 8) := ⟨_, rfl⟩
          have w5 : IntKind.i64.wrap ((mid : Int) - (a' : Int)) = (lf : Int) := by rw [hlf.out, IntKind.wrap_i64]; omega
          have w6 : IntKind.i64.wrap ((b' : Int) - (mid : Int)) = (rt : Int) := by rw [hrt.out, IntKind.wrap_i64]; omega
          have w7 : (ln : Int).tdiv 8 = (th : Int) := by rw [hth.out, Int.tdiv_eq_ediv_of_nonneg (by omega)]; omega
          have w8 : IntKind.i64.wrap (th : Int) = (th : Int) := by have := hth.out; have := hln.out; rw [IntKind.wrap_i64]; omega
          have w9 : IntKind.i64.wrap ((mid : Int) + 1) = ((mid + 1 : Nat) : Int) := by rw [IntKind.wrap_i64]; omega
          by_cases hlr : lf < rt
          · have gl : (lf : Int) < (rt : Int) := by omega
            have HE2 : Hid (pdB (pdB d4 a' mid L2 true true) (mid + 1) b' L2 (decide (mid - a' ≥ (b' - a') / 8)) ap = T) := by
              show _ = T
              rw [← HE.out]
              exact (r3_lt d2 a' b' pv L2 false wp HL.out mid ap d4 hR.out.symm m1 m2 (by have := hlf.out; have := hrt.out; omega)).symm
            have C := IH.out (mid - a') (by have := hln.out; omega) A5 a' mid L2 m1 (by omega) (Nat.le_refl _) (by omega)
            clear A5 HE hR
            go_wp2_with fail
            refine C.mono ?_
            rintro e9 z6 ⟨rfl, A7, K7⟩
            have R2 : Hid (IsA z6 base g N cap (pdB d4 a' mid L2 true true) ∧ Kp [g] w z6) := ⟨A7, K6.out.trans K7⟩
            clear C A7 K7 K6
            go_wp2_with fail
            refine ⟨⟨mid + 1, b', L2, _, ap, _, rfl, rfl, rfl, rfl, rfl, by omega, by omega, by omega, by omega, by have := hln.out; omega, (congrArg (fun x => pdB _ (mid + 1) b' L2 x ap) ?_).trans HE2.out, R2.out.1, R2.out.2⟩, by simp [intOf]; omega⟩
            have := hlf.out; have := hth.out; have := hln.out
            first | (rw [decide_eq_decide]; omega) | (simp; omega)
          · have gl : ¬ (lf : Int) < (rt : Int) := by omega
            have HE2 : Hid (pdB (pdB d4 (mid + 1) b' L2 true true) a' mid L2 (decide (b' - mid ≥ (b' - a') / 8)) ap = T) := by
              show _ = T
              rw [← HE.out]
              exact (r3_ge d2 a' b' pv L2 false wp HL.out mid ap d4 hR.out.symm m1 m2 (by have := hlf.out; have := hrt.out; omega)).symm
            have C := IH.out (b' - (mid + 1)) (by have := hln.out; omega) A5 (mid + 1) b' L2 (by omega) (by omega) (Nat.le_refl _) (by omega)
            clear A5 HE hR
            go_wp2_with fail
            refine C.mono ?_
            rintro e9 z6 ⟨rfl, A7, K7⟩
            have R2 : Hid (IsA z6 base g N cap (pdB d4 (mid + 1) b' L2 true true) ∧ Kp [g] w z6) := ⟨A7, K6.out.trans K7⟩
            clear C A7 K7 K6
            go_wp2_with fail
            refine ⟨⟨a', mid, L2, _, ap, _, rfl, rfl, rfl, rfl, rfl, by omega, by omega, by omega, by omega, by have := hln.out; omega, (congrArg (fun x => pdB _ a' mid L2 x ap) ?_).trans HE2.out, R2.out.1, R2.out.2⟩, by simp [intOf]; omega⟩
            have := hrt.out; have := hth.out; have := hln.out
            first | (rw [decide_eq_decide]; omega) | (simp; omega)
      have hv : ¬ hintV hint = 2 := by
        cases hint with
        | decreasing => exact absurd rfl hd
        | unknown => decide
        | increasing => decide
      have HE2 : Hid (rest3 d1 a' b' pv0 L2 false wp = T) := by
        show _ = T
        rw [← HE.out, r2_not d1 a' b' L2 pv0 false wp hint hc.out.symm hd (by simp)]
      clear HE
      have HE := HE2
      clear HE2 hd
      by_cases h0 : a' = 0
      · have g3 : ¬ (a' : Int) > 0 := by omega
        have g4 : ¬ 0 < (a' : Int) := by omega
        have HL : Hid (¬ (0 < a' ∧ aheadB d1[a' - 1]! d1[pv0]! = false)) := fun h => by have := h.1; omega
        have h00 : Hid (a' = 0) := h0
        clear h0
        obtain ⟨⟨mid, ap, d4⟩, hR⟩ : ∃ R, Hid (R = Go.Sort.partition aheadB d1 a' b' pv0) := ⟨_, rfl⟩
        have C := partition_any hA a' b' pv0 pv1 pv2 (by omega) hN
        rw [← hR.out] at C
        have HK : Hid (Kp [g] w z1) := hK
        clear hA hK
        go_wp2_with fail
        refine C.mono ?_
        rintro e9 z5 ⟨rfl, A5, K5, m1, m2⟩
        have K6 : Hid (Kp [g] w z5) := HK.out.trans K5
        clear C K5 HK
        obtain ⟨lf, hlf⟩ : ∃ lf, Hid (lf = mid - a') := ⟨_, rfl⟩
        obtain ⟨rt, hrt⟩ : ∃ rt, Hid (rt = b' - mid) := ⟨_, rfl⟩
        obtain ⟨th, hth⟩ : ∃ th, Hid (th = ln / 8) := ⟨_, rfl⟩
        have w5 : IntKind.i64.wrap ((mid : Int) - (a' : Int)) = (lf : Int) := by rw [hlf.out, IntKind.wrap_i64]; omega
        have w6 : IntKind.i64.wrap ((b' : Int) - (mid : Int)) = (rt : Int) := by rw [hrt.out, IntKind.wrap_i64]; omega
        have w7 : (ln : Int).tdiv 8 = (th : Int) := by rw [hth.out, Int.tdiv_eq_ediv_of_nonneg (by omega)]; omega
        have w8 : IntKind.i64.wrap (th : Int) = (th : Int) := by have := hth.out; have := hln.out; rw [IntKind.wrap_i64]; omega
        have w9 : IntKind.i64.wrap ((mid : Int) + 1) = ((mid + 1 : Nat) : Int) := by rw [IntKind.wrap_i64]; omega
        by_cases hlr : lf < rt
        · have gl : (lf : Int) < (rt : Int) := by omega
          have HE2 : Hid (pdB (pdB d4 a' mid L2 true true) (mid + 1) b' L2 (decide (mid - a' ≥ (b' - a') / 8)) ap = T) := by
            show _ = T
            rw [← HE.out]
            exact (r3_lt d1 a' b' pv0 L2 false wp HL.out mid ap d4 hR.out.symm m1 m2 (by have := hlf.out; have := hrt.out; omega)).symm
          have C := IH.out (mid - a') (by have := hln.out; omega) A5 a' mid L2 m1 (by omega) (Nat.le_refl _) (by omega)
          clear A5 HE hR
          go_wp2_with fail
          refine C.mono ?_
          rintro e9 z6 ⟨rfl, A7, K7⟩
          have R2 : Hid (IsA z6 base g N cap (pdB d4 a' mid L2 true true) ∧ Kp [g] w z6) := ⟨A7, K6.out.trans K7⟩
          clear C A7 K7 K6
          go_wp2_with fail
          refine ⟨⟨mid + 1, b', L2, _, ap, _, rfl, rfl, rfl, rfl, rfl, by omega, by omega, by omega, by omega, by have := hln.out; omega, (congrArg (fun x => pdB _ (mid + 1) b' L2 x ap) ?_).trans HE2.out, R2.out.1, R2.out.2⟩, by simp [intOf]; omega⟩
          have := hlf.out; have := hth.out; have := hln.out
          first | (rw [decide_eq_decide]; omega) | (simp; omega)
        · have gl : ¬ (lf : Int) < (rt : Int) := by omega
          have HE2 : Hid (pdB (pdB d4 (mid + 1) b' L2 true true) a' mid L2 (decide (b' - mid ≥ (b' - a') / 8)) ap = T) := by
            show _ = T
            rw [← HE.out]
            exact (r3_ge d1 a' b' pv0 L2 false wp HL.out mid ap d4 hR.out.symm m1 m2 (by have := hlf.out; have := hrt.out; omega)).symm
          have C := IH.out (b' - (mid + 1)) (by have := hln.out; omega) A5 (mid + 1) b' L2 (by omega) (by omega) (Nat.le_refl _) (by omega)
          clear A5 HE hR
          go_wp2_with fail
          refine C.mono ?_
          rintro e9 z6 ⟨rfl, A7, K7⟩
          have R2 : Hid (IsA z6 base g N cap (pdB d4 (mid + 1) b' L2 true true) ∧ Kp [g] w z6) := ⟨A7, K6.out.trans K7⟩
          clear C A7 K7 K6
          go_wp2_with fail
          refine ⟨⟨a', mid, L2, _, ap, _, rfl, rfl, rfl, rfl, rfl, by omega, by omega, by omega, by omega, by have := hln.out; omega, (congrArg (fun x => pdB _ a' mid L2 x ap) ?_).trans HE2.out, R2.out.1, R2.out.2⟩, by simp [intOf]; omega⟩
          have := hrt.out; have := hth.out; have := hln.out
          first | (rw [decide_eq_decide]; omega) | (simp; omega)
      have g3 : (a' : Int) > 0 := by omega
      have g4 : 0 < (a' : Int) := by omega
      obtain ⟨q, hq⟩ : ∃ q, Hid (a' = q + 1) := ⟨a' - 1, by show a' = _; omega⟩
      have wq : IntKind.i64.wrap ((a' : Int) - 1) = (q : Int) := by have := hq.out; rw [IntKind.wrap_i64]; omega
      have C := lessA hA q pv0 (by have := hq.out; omega) (by omega)
      have RES : Hid (∀ z, Below z1.heap.size z1 z → IsA z base g N cap d1 ∧ Kp [g] w z) := fun z hz => ⟨hA.next hz, hK.trans (Kp.of hz)⟩
      clear hA hK
      cases hl : aheadB d1[q]! d1[pv0]! with
      | false =>
        rw [hl] at C
        have HLL : Hid _ := hl
        clear hl
        go_wp2_with fail
        refine C.mono ?_
        rintro e9 z4 ⟨rfl, bz⟩
        obtain ⟨hA, hK⟩ := RES.out z4 bz
        clear C bz RES
        obtain ⟨⟨mid, d4⟩, hR⟩ : ∃ R, Hid (R = Go.Sort.partitionEqual aheadB d1 a' b' pv0) := ⟨_, rfl⟩
        have C := partitionEqual_any hA a' b' pv0 pv1 pv2 (by omega) hN
        rw [← hR.out] at C
        have HK : Hid (Kp [g] w z4) := hK
        clear hA hK
        go_wp2_with fail
        refine C.mono ?_
        rintro e9 z5 ⟨rfl, A5, K5, m1, m2⟩
        have R2 : Hid (IsA z5 base g N cap d4 ∧ Kp [g] w z5) := ⟨A5, HK.out.trans K5⟩
        have HE2 : Hid (pdB d4 mid b' L2 false wp = T) := by
          show _ = T
          rw [← HE.out]
          have hq' := hq.out
          have hR' := hR.out
          have hL' := HLL.out
          subst hq'
          exact (r3_eq d1 q b' pv0 L2 false wp hL' mid d4 hR'.symm m1 m2).symm
        clear C A5 K5 HK HE hR HLL
        go_wp2_with fail
        exact ⟨⟨mid, b', L2, false, wp, _, rfl, rfl, rfl, rfl, rfl, by omega, by omega, by omega, by omega, by have := hln.out; omega, HE2.out, R2.out.1, R2.out.2⟩, by simp [intOf]; omega⟩
      | true =>
        rw [hl] at C
        have HL : Hid (¬ (0 < a' ∧ aheadB d1[a' - 1]! d1[pv0]! = false)) := fun h => by
          have h2 := h.2
          rw [show a' - 1 = q from by have := hq.out; omega, hl] at h2
          cases h2
        clear hl
        go_wp2_with fail
        refine C.mono ?_
        rintro e9 z4 ⟨rfl, bz⟩
        obtain ⟨hA, hK⟩ := RES.out z4 bz
        clear C bz RES
        obtain ⟨⟨mid, ap, d4⟩, hR⟩ : ∃ R, Hid (R = Go.Sort.partition aheadB d1 a' b' pv0) := ⟨_, rfl⟩
        have C := partition_any hA a' b' pv0 pv1 pv2 (by omega) hN
        rw [← hR.out] at C
        have HK : Hid (Kp [g] w z4) := hK
        clear hA hK
        go_wp2_with fail
        refine C.mono ?_
        rintro e9 z5 ⟨rfl, A5, K5, m1, m2⟩
        have K6 : Hid (Kp [g] w z5) := HK.out.trans K5
        clear C K5 HK
        obtain ⟨lf, hlf⟩ : ∃ lf, Hid (lf = mid - a') := ⟨_, rfl⟩
        obtain ⟨rt, hrt⟩ : ∃ rt, Hid (rt = b' - mid) := ⟨_, rfl⟩
        obtain ⟨th, hth⟩ : ∃ th, Hid (th = ln / 8) := ⟨_, rfl⟩
        have w5 : IntKind.i64.wrap ((mid : Int) - (a' : Int)) = (lf : Int) := by rw [hlf.out, IntKind.wrap_i64]; omega
        have w6 : IntKind.i64.wrap ((b' : Int) - (mid : Int)) = (rt : Int) := by rw [hrt.out, IntKind.wrap_i64]; omega
        have w7 : (ln : Int).tdiv 8 = (th : Int) := by rw [hth.out, Int.tdiv_eq_ediv_of_nonneg (by omega)]; omega
        have w8 : IntKind.i64.wrap (th : Int) = (th : Int) := by have := hth.out; have := hln.out; rw [IntKind.wrap_i64]; omega
        have w9 : IntKind.i64.wrap ((mid : Int) + 1) = ((mid + 1 : Nat) : Int) := by rw [IntKind.wrap_i64]; omega
        by_cases hlr : lf < rt
        · have gl : (lf : Int) < (rt : Int) := by omega
          have HE2 : Hid (pdB (pdB d4 a' mid L2 true true) (mid + 1) b' L2 (decide (mid - a' ≥ (b' - a') / 8)) ap = T) := by
            show _ = T
            rw [← HE.out]
            exact (r3_lt d1 a' b' pv0 L2 false wp HL.out mid ap d4 hR.out.symm m1 m2 (by have := hlf.out; have := hrt.out; omega)).symm
          have C := IH.out (mid - a') (by have := hln.out; omega) A5 a' mid L2 m1 (by omega) (Nat.le_refl _) (by omega)
          clear A5 HE hR
          go_wp2_with fail
          refine C.mono ?_
          rintro e9 z6 ⟨rfl, A7, K7⟩
          have R2 : Hid (IsA z6 base g N cap (pdB d4 a' mid L2 true true) ∧ Kp [g] w z6) := ⟨A7, K6.out.trans K7⟩
          clear C A7 K7 K6
          go_wp2_with fail
          refine ⟨⟨mid + 1, b', L2, _, ap, _, rfl, rfl, rfl, rfl, rfl, by omega, by omega, by omega, by omega, by have := hln.out; omega, (congrArg (fun x => pdB _ (mid + 1) b' L2 x ap) ?_).trans HE2.out, R2.out.1, R2.out.2⟩, by simp [intOf]; omega⟩
          have := hlf.out; have := hth.out; have := hln.out
          first | (rw [decide_eq_decide]; omega) | (simp; omega)
        · have gl : ¬ (lf : Int) < (rt : Int) := by omega
          have HE2 : Hid (pdB (pdB d4 (mid + 1) b' L2 true true) a' mid L2 (decide (b' - mid ≥ (b' - a') / 8)) ap = T) := by
            show _ = T
            rw [← HE.out]
            exact (r3_ge d1 a' b' pv0 L2 false wp HL.out mid ap d4 hR.out.symm m1 m2 (by have := hlf.out; have := hrt.out; omega)).symm
          have C := IH.out (b' - (mid + 1)) (by have := hln.out; omega) A5 (mid + 1) b' L2 (by omega) (by omega) (Nat.le_refl _) (by omega)
          clear A5 HE hR
          go_wp2_with fail
          refine C.mono ?_
          rintro e9 z6 ⟨rfl, A7, K7⟩
          have R2 : Hid (IsA z6 base g N cap (pdB d4 (mid + 1) b' L2 true true) ∧ Kp [g] w z6) := ⟨A7, K6.out.trans K7⟩
          clear C A7 K7 K6
          go_wp2_with fail
          refine ⟨⟨a', mid, L2, _, ap, _, rfl, rfl, rfl, rfl, rfl, by omega, by omega, by omega, by omega, by have := hln.out; omega, (congrArg (fun x => pdB _ a' mid L2 x ap) ?_).trans HE2.out, R2.out.1, R2.out.2⟩, by simp [intOf]; omega⟩
          have := hrt.out; have := hth.out; have := hln.out
          first | (rw [decide_eq_decide]; omega) | (simp; omega)
    | true =>
      have HE : Hid (rest2 e a' b' L' true wp = T) := he
      clear he
      obtain ⟨⟨pv0, hint⟩, hc⟩ : ∃ c, Hid (c = Go.Sort.choosePivot aheadB e a' b') := ⟨_, rfl⟩
      obtain ⟨pv1, pv2⟩ : a' ≤ pv0 ∧ pv0 < b' := by
        have := Go.Sort.choosePivot_holds aheadB e a' b' (by omega)
        rw [← hc.out] at this
        exact this
      have C := choosePivot_any hA a' b' (by omega) hN (by omega)
      rw [← hc.out] at C
      dsimp only at C
      have HK : Hid (Kp [g] w wr) := hK
      clear hA hK
      go_wp2_with fail
      refine C.mono ?_
      rintro e9 z1 ⟨rfl, hA, bz⟩
      have hK : Kp [g] w z1 := HK.out.trans (Kp.of bz)
      clear C bz HK
      cases wp with
      | false =>
        by_cases hd : hint = .decreasing
        · subst hd
          have hv : hintV .decreasing = 2 := rfl
          have pw1 := pv1
          have pw2 := pv2
          clear pv1 pv2
          obtain ⟨d2, hd2⟩ : ∃ d2, Hid (d2 = Go.Sort.reverseRange e a' b') := ⟨_, rfl⟩
          obtain ⟨B1, hB1⟩ : ∃ B1, Hid (B1 = b' - 1) := ⟨_, rfl⟩
          obtain ⟨pa, hpa⟩ : ∃ pa, Hid (pa = pv0 - a') := ⟨_, rfl⟩
          obtain ⟨pv, hpv⟩ : ∃ pv, Hid (pv = (b' - 1) - (pv0 - a')) := ⟨_, rfl⟩
          have w2 : IntKind.i64.wrap ((b' : Int) - 1) = (B1 : Int) := by have := hB1.out; rw [IntKind.wrap_i64]; omega
          have w3 : IntKind.i64.wrap ((pv0 : Int) - (a' : Int)) = (pa : Int) := by have := hpa.out; rw [IntKind.wrap_i64]; omega
          have w4 : IntKind.i64.wrap ((B1 : Int) - (pa : Int)) = (pv : Int) := by have := hpa.out; have := hB1.out; have := hpv.out; rw [IntKind.wrap_i64]; omega
          have pv1 : a' ≤ pv := by have := hpv.out; omega
          have pv2 : pv < b' := by have := hpv.out; omega
          have C := reverseRange_any hA a' b' (by omega) (by omega) hN
          have HK : Hid (Kp [g] w z1) := hK
          clear hA hK
          go_wp2_with fail
          refine C.mono ?_
          rintro e9 z2 ⟨rfl, A5, K5⟩
          have hA : IsA z2 base g N cap (Go.Sort.reverseRange e a' b') := A5
          have hK : Kp [g] w z2 := HK.out.trans K5
          clear C A5 K5 HK
          rw [← hd2.out] at hA
          have HE2 : Hid (rest3 d2 a' b' pv L' true false = T) := by
            show _ = T
            rw [← HE.out, r2_dec e a' b' L' pv0 true false hc.out.symm (by simp), hd2.out, hpv.out]
          clear HE
          have HE := HE2
          clear HE2
          by_cases h0 : a' = 0
          · have g3 : ¬ (a' : Int) > 0 := by omega
            have g4 : ¬ 0 < (a' : Int) := by omega
            have HL : Hid (¬ (0 < a' ∧ aheadB d2[a' - 1]! d2[pv]! = false)) := fun h => by have := h.1; omega
            have h00 : Hid (a' = 0) := h0
            clear h0
            obtain ⟨⟨mid, ap, d4⟩, hR⟩ : ∃ R, Hid (R = Go.Sort.partition aheadB d2 a' b' pv) := ⟨_, rfl⟩
            have C := partition_any hA a' b' pv pv1 pv2 (by omega) hN
            rw [← hR.out] at C
            have HK : Hid (Kp [g] w z2) := hK
            clear hA hK
            go_wp2_with fail
            refine C.mono ?_
            rintro e9 z5 ⟨rfl, A5, K5, m1, m2⟩
            have K6 : Hid (Kp [g] w z5) := HK.out.trans K5
            clear C K5 HK
            obtain ⟨lf, hlf⟩ : ∃ lf, Hid (lf = mid - a') := ⟨_, rfl⟩
            obtain ⟨rt, hrt⟩ : ∃ rt, Hid (rt = b' - mid) := ⟨_, rfl⟩
            obtain ⟨th, hth⟩ : ∃ th, Hid (th = ln / 8) := ⟨_, rfl⟩
            have w5 : IntKind.i64.wrap ((mid : Int) - (a' : Int)) = (lf : Int) := by rw [hlf.out, IntKind.wrap_i64]; omega
            have w6 : IntKind.i64.wrap ((b' : Int) - (mid : Int)) = (rt : Int) := by rw [hrt.out, IntKind.wrap_i64]; omega
            have w7 : (ln : Int).tdiv 8 = (th : Int) := by rw [hth.out, Int.tdiv_eq_ediv_of_nonneg (by omega)]; omega
            have w8 : IntKind.i64.wrap (th : Int) = (th : Int) := by have := hth.out; have := hln.out; rw [IntKind.wrap_i64]; omega
            have w9 : IntKind.i64.wrap ((mid : Int) + 1) = ((mid + 1 : Nat) : Int) := by rw [IntKind.wrap_i64]; omega
            by_cases hlr : lf < rt
            · have gl : (lf : Int) < (rt : Int) := by omega
              have HE2 : Hid (pdB (pdB d4 a' mid L' true true) (mid + 1) b' L' (decide (mid - a' ≥ (b' - a') / 8)) ap = T) := by
                show _ = T
                rw [← HE.out]
                exact (r3_lt d2 a' b' pv L' true false HL.out mid ap d4 hR.out.symm m1 m2 (by have := hlf.out; have := hrt.out; omega)).symm
              have C := IH.out (mid - a') (by have := hln.out; omega) A5 a' mid L' m1 (by omega) (Nat.le_refl _) (by omega)
              clear A5 HE hR
              go_wp2_with fail
              refine C.mono ?_
              rintro e9 z6 ⟨rfl, A7, K7⟩
              have R2 : Hid (IsA z6 base g N cap (pdB d4 a' mid L' true true) ∧ Kp [g] w z6) := ⟨A7, K6.out.trans K7⟩
              clear C A7 K7 K6
              go_wp2_with fail
              refine ⟨⟨mid + 1, b', L', _, ap, _, rfl, rfl, rfl, rfl, rfl, by omega, by omega, by omega, by omega, by have := hln.out; omega, (congrArg (fun x => pdB _ (mid + 1) b' L' x ap) ?_).trans HE2.out, R2.out.1, R2.out.2⟩, by simp [intOf]; omega⟩
              have := hlf.out; have := hth.out; have := hln.out
              first | (rw [decide_eq_decide]; omega) | (simp; omega)
            · have gl : ¬ (lf : Int) < (rt : Int) := by omega
              have HE2 : Hid (pdB (pdB d4 (mid + 1) b' L' true true) a' mid L' (decide (b' - mid ≥ (b' - a') / 8)) ap = T) := by
                show _ = T
                rw [← HE.out]
                exact (r3_ge d2 a' b' pv L' true false HL.out mid ap d4 hR.out.symm m1 m2 (by have := hlf.out; have := hrt.out; omega)).symm
              have C := IH.out (b' - (mid + 1)) (by have := hln.out; omega) A5 (mid + 1) b' L' (by omega) (by omega) (Nat.le_refl _) (by omega)
              clear A5 HE hR
              go_wp2_with fail
              refine C.mono ?_
              rintro e9 z6 ⟨rfl, A7, K7⟩
              have R2 : Hid (IsA z6 base g N cap (pdB d4 (mid + 1) b' L' true true) ∧ Kp [g] w z6) := ⟨A7, K6.out.trans K7⟩
              clear C A7 K7 K6
              go_wp2_with fail
              refine ⟨⟨a', mid, L', _, ap, _, rfl, rfl, rfl, rfl, rfl, by omega, by omega, by omega, by omega, by have := hln.out; omega, (congrArg (fun x => pdB _ a' mid L' x ap) ?_).trans HE2.out, R2.out.1, R2.out.2⟩, by simp [intOf]; omega⟩
              have := hrt.out; have := hth.out; have := hln.out
              first | (rw [decide_eq_decide]; omega) | (simp; omega)
          have g3 : (a' : Int) > 0 := by omega
          have g4 : 0 < (a' : Int) := by omega
          obtain ⟨q, hq⟩ : ∃ q, Hid (a' = q + 1) := ⟨a' - 1, by show a' = _; omega⟩
          have wq : IntKind.i64.wrap ((a' : Int) - 1) = (q : Int) := by have := hq.out; rw [IntKind.wrap_i64]; omega
          have C := lessA hA q pv (by have := hq.out; omega) (by omega)
          have RES : Hid (∀ z, Below z2.heap.size z2 z → IsA z base g N cap d2 ∧ Kp [g] w z) := fun z hz => ⟨hA.next hz, hK.trans (Kp.of hz)⟩
          clear hA hK
          cases hl : aheadB d2[q]! d2[pv]! with
          | false =>
            rw [hl] at C
            have HLL : Hid _ := hl
            clear hl
            go_wp2_with fail
            refine C.mono ?_
            rintro e9 z4 ⟨rfl, bz⟩
            obtain ⟨hA, hK⟩ := RES.out z4 bz
            clear C bz RES
            obtain ⟨⟨mid, d4⟩, hR⟩ : ∃ R, Hid (R = Go.Sort.partitionEqual aheadB d2 a' b' pv) := ⟨_, rfl⟩
            have C := partitionEqual_any hA a' b' pv pv1 pv2 (by omega) hN
            rw [← hR.out] at C
            have HK : Hid (Kp [g] w z4) := hK
            clear hA hK
            go_wp2_with fail
            refine C.mono ?_
            rintro e9 z5 ⟨rfl, A5, K5, m1, m2⟩
            have R2 : Hid (IsA z5 base g N cap d4 ∧ Kp [g] w z5) := ⟨A5, HK.out.trans K5⟩
            have HE2 : Hid (pdB d4 mid b' L' true false = T) := by
              show _ = T
              rw [← HE.out]
              have hq' := hq.out
              have hR' := hR.out
              have hL' := HLL.out
              subst hq'
              exact (r3_eq d2 q b' pv L' true false hL' mid d4 hR'.symm m1 m2).symm
            clear C A5 K5 HK HE hR HLL
            go_wp2_with fail
            exact ⟨⟨mid, b', L', true, false, _, rfl, rfl, rfl, rfl, rfl, by omega, by omega, by omega, by omega, by have := hln.out; omega, HE2.out, R2.out.1, R2.out.2⟩, by simp [intOf]; omega⟩
          | true =>
            rw [hl] at C
            have HL : Hid (¬ (0 < a' ∧ aheadB d2[a' - 1]! d2[pv]! = false)) := fun h => by
              have h2 := h.2
              rw [show a' - 1 = q from by have := hq.out; omega, hl] at h2
              cases h2
            clear hl
            go_wp2_with fail
            refine C.mono ?_
            rintro e9 z4 ⟨rfl, bz⟩
            obtain ⟨hA, hK⟩ := RES.out z4 bz
            clear C bz RES
            obtain ⟨⟨mid, ap, d4⟩, hR⟩ : ∃ R, Hid (R = Go.Sort.partition aheadB d2 a' b' pv) := ⟨_, rfl⟩
            have C := partition_any hA a' b' pv pv1 pv2 (by omega) hN
            rw [← hR.out] at C
            have HK : Hid (Kp [g] w z4) := hK
            clear hA hK
            go_wp2_with fail
            refine C.mono ?_
            rintro e9 z5 ⟨rfl, A5, K5, m1, m2⟩
            have K6 : Hid (Kp [g] w z5) := HK.out.trans K5
            clear C K5 HK
            obtain ⟨lf, hlf⟩ : ∃ lf, Hid (lf = mid - a') := ⟨_, rfl⟩
            obtain ⟨rt, hrt⟩ : ∃ rt, Hid (rt = b' - mid) := ⟨_, rfl⟩
            obtain ⟨th, hth⟩ : ∃ th, Hid (th = ln / 8) := ⟨_, rfl⟩
            have w5 : IntKind.i64.wrap ((mid : Int) - (a' : Int)) = (lf : Int) := by rw [hlf.out, IntKind.wrap_i64]; omega
            have w6 : IntKind.i64.wrap ((b' : Int) - (mid : Int)) = (rt : Int) := by rw [hrt.out, IntKind.wrap_i64]; omega
            have w7 : (ln : Int).tdiv 8 = (th : Int) := by rw [hth.out, Int.tdiv_eq_ediv_of_nonneg (by omega)]; omega
            have w8 : IntKind.i64.wrap (th : Int) = (th : Int) := by have := hth.out; have := hln.out; rw [IntKind.wrap_i64]; omega
            have w9 : IntKind.i64.wrap ((mid : Int) + 1) = ((mid + 1 : Nat) : Int) := by rw [IntKind.wrap_i64]; omega
            by_cases hlr : lf < rt
            · have gl : (lf : Int) < (rt : Int) := by omega
              have HE2 : Hid (pdB (pdB d4 a' mid L' true true) (mid + 1) b' L' (decide (mid - a' ≥ (b' - a') / 8)) ap = T) := by
                show _ = T
                rw [← HE.out]
                exact (r3_lt d2 a' b' pv L' true false HL.out mid ap d4 hR.out.symm m1 m2 (by have := hlf.out; have := hrt.out; omega)).symm
              have C := IH.out (mid - a') (by have := hln.out; omega) A5 a' mid L' m1 (by omega) (Nat.le_refl _) (by omega)
              clear A5 HE hR
              go_wp2_with fail
              refine C.mono ?_
              rintro e9 z6 ⟨rfl, A7, K7⟩
              have R2 : Hid (IsA z6 base g N cap (pdB d4 a' mid L' true true) ∧ Kp [g] w z6) := ⟨A7, K6.out.trans K7⟩
              clear C A7 K7 K6
              go_wp2_with fail
              refine ⟨⟨mid + 1, b', L', _, ap, _, rfl, rfl, rfl, rfl, rfl, by omega, by omega, by omega, by omega, by have := hln.out; omega, (congrArg (fun x => pdB _ (mid + 1) b' L' x ap) ?_).trans HE2.out, R2.out.1, R2.out.2⟩, by simp [intOf]; omega⟩
              have := hlf.out; have := hth.out; have := hln.out
              first | (rw [decide_eq_decide]; omega) | (simp; omega)
            · have gl : ¬ (lf : Int) < (rt : Int) := by omega
              have HE2 : Hid (pdB (pdB d4 (mid + 1) b' L' true true) a' mid L' (decide (b' - mid ≥ (b' - a') / 8)) ap = T) := by
                show _ = T
                rw [← HE.out]
                exact (r3_ge d2 a' b' pv L' true false HL.out mid ap d4 hR.out.symm m1 m2 (by have := hlf.out; have := hrt.out; omega)).symm
              have C := IH.out (b' - (mid + 1)) (by have := hln.out; omega) A5 (mid + 1) b' L' (by omega) (by omega) (Nat.le_refl _) (by omega)
              clear A5 HE hR
              go_wp2_with fail
              refine C.mono ?_
              rintro e9 z6 ⟨rfl, A7, K7⟩
              have R2 : Hid (IsA z6 base g N cap (pdB d4 (mid + 1) b' L' true true) ∧ Kp [g] w z6) := ⟨A7, K6.out.trans K7⟩
              clear C A7 K7 K6
              go_wp2_with fail
              refine ⟨⟨a', mid, L', _, ap, _, rfl, rfl, rfl, rfl, rfl, by omega, by omega, by omega, by omega, by have := hln.out; omega, (congrArg (fun x => pdB _ a' mid L' x ap) ?_).trans HE2.out, R2.out.1, R2.out.2⟩, by simp [intOf]; omega⟩
              have := hrt.out; have := hth.out; have := hln.out
              first | (rw [decide_eq_decide]; omega) | (simp; omega)
        have hv : ¬ hintV hint = 2 := by
          cases hint with
          | decreasing => exact absurd rfl hd
          | unknown => decide
          | increasing => decide
        have HE2 : Hid (rest3 e a' b' pv0 L' true false = T) := by
          show _ = T
          rw [← HE.out, r2_not e a' b' L' pv0 true false hint hc.out.symm hd (by simp)]
        clear HE
        have HE := HE2
        clear HE2 hd
        by_cases h0 : a' = 0
        · have g3 : ¬ (a' : Int) > 0 := by omega
          have g4 : ¬ 0 < (a' : Int) := by omega
          have HL : Hid (¬ (0 < a' ∧ aheadB e[a' - 1]! e[pv0]! = false)) := fun h => by have := h.1; omega
          have h00 : Hid (a' = 0) := h0
          clear h0
          obtain ⟨⟨mid, ap, d4⟩, hR⟩ : ∃ R, Hid (R = Go.Sort.partition aheadB e a' b' pv0) := ⟨_, rfl⟩
          have C := partition_any hA a' b' pv0 pv1 pv2 (by omega) hN
          rw [← hR.out] at C
          have HK : Hid (Kp [g] w z1) := hK
          clear hA hK
          go_wp2_with fail
          refine C.mono ?_
          rintro e9 z5 ⟨rfl, A5, K5, m1, m2⟩
          have K6 : Hid (Kp [g] w z5) := HK.out.trans K5
          clear C K5 HK
          obtain ⟨lf, hlf⟩ : ∃ lf, Hid (lf = mid - a') := ⟨_, rfl⟩
          obtain ⟨rt, hrt⟩ : ∃ rt, Hid (rt = b' - mid) := ⟨_, rfl⟩
          obtain ⟨th, hth⟩ : ∃ th, Hid (th = ln / 8) := ⟨_, rfl⟩
          have w5 : IntKind.i64.wrap ((mid : Int) - (a' : Int)) = (lf : Int) := by rw [hlf.out, IntKind.wrap_i64]; omega
          have w6 : IntKind.i64.wrap ((b' : Int) - (mid : Int)) = (rt : Int) := by rw [hrt.out, IntKind.wrap_i64]; omega
          have w7 : (ln : Int).tdiv 8 = (th : Int) := by rw [hth.out, Int.tdiv_eq_ediv_of_nonneg (by omega)]; omega
          have w8 : IntKind.i64.wrap (th : Int) = (th : Int) := by have := hth.out; have := hln.out; rw [IntKind.wrap_i64]; omega
          have w9 : IntKind.i64.wrap ((mid : Int) + 1) = ((mid + 1 : Nat) : Int) := by rw [IntKind.wrap_i64]; omega
          by_cases hlr : lf < rt
          · have gl : (lf : Int) < (rt : Int) := by omega
            have HE2 : Hid (pdB (pdB d4 a' mid L' true true) (mid + 1) b' L' (decide (mid - a' ≥ (b' - a') / 8)) ap = T) := by
              show _ = T
              rw [← HE.out]
              exact (r3_lt e a' b' pv0 L' true false HL.out mid ap d4 hR.out.symm m1 m2 (by have := hlf.out; have := hrt.out; omega)).symm
            have C := IH.out (mid - a') (by have := hln.out; omega) A5 a' mid L' m1 (by omega) (Nat.le_refl _) (by omega)
            clear A5 HE hR
            go_wp2_with fail
            refine C.mono ?_
            rintro e9 z6 ⟨rfl, A7, K7⟩
            have R2 : Hid (IsA z6 base g N cap (pdB d4 a' mid L' true true) ∧ Kp [g] w z6) := ⟨A7, K6.out.trans K7⟩
            clear C A7 K7 K6
            go_wp2_with fail
            refine ⟨⟨mid + 1, b', L', _, ap, _, rfl, rfl, rfl, rfl, rfl, by omega, by omega, by omega, by omega, by have := hln.out; omega, (congrArg (fun x => pdB _ (mid + 1) b' L' x ap) ?_).trans HE2.out, R2.out.1, R2.out.2⟩, by simp [intOf]; omega⟩
            have := hlf.out; have := hth.out; have := hln.out
            first | (rw [decide_eq_decide]; omega) | (simp; omega)
          · have gl : ¬ (lf : Int) < (rt : Int) := by omega
            have HE2 : Hid (pdB (pdB d4 (mid + 1) b' L' true true) a' mid L' (decide (b' - mid ≥ (b' - a') / 8)) ap = T) := by
              show _ = T
              rw [← HE.out]
              exact (r3_ge e a' b' pv0 L' true false HL.out mid ap d4 hR.out.symm m1 m2 (by have := hlf.out; have := hrt.out; omega)).symm
            have C := IH.out (b' - (mid + 1)) (by have := hln.out; omega) A5 (mid + 1) b' L' (by omega) (by omega) (Nat.le_refl _) (by omega)
            clear A5 HE hR
            go_wp2_with fail
            refine C.mono ?_
            rintro e9 z6 ⟨rfl, A7, K7⟩
            have R2 : Hid (IsA z6 base g N cap (pdB d4 (mid + 1) b' L' true true) ∧ Kp [g] w z6) := ⟨A7, K6.out.trans K7⟩
            clear C A7 K7 K6
            go_wp2_with fail
            refine ⟨⟨a', mid, L', _, ap, _, rfl, rfl, rfl, rfl, rfl, by omega, by omega, by omega, by omega, by have := hln.out; omega, (congrArg (fun x => pdB _ a' mid L' x ap) ?_).trans HE2.out, R2.out.1, R2.out.2⟩, by simp [intOf]; omega⟩
            have := hrt.out; have := hth.out; have := hln.out
            first | (rw [decide_eq_decide]; omega) | (simp; omega)
        have g3 : (a' : Int) > 0 := by omega
        have g4 : 0 < (a' : Int) := by omega
        obtain ⟨q, hq⟩ : ∃ q, Hid (a' = q + 1) := ⟨a' - 1, by show a' = _; omega⟩
        have wq : IntKind.i64.wrap ((a' : Int) - 1) = (q : Int) := by have := hq.out; rw [IntKind.wrap_i64]; omega
        have C := lessA hA q pv0 (by have := hq.out; omega) (by omega)
        have RES : Hid (∀ z, Below z1.heap.size z1 z → IsA z base g N cap e ∧ Kp [g] w z) := fun z hz => ⟨hA.next hz, hK.trans (Kp.of hz)⟩
        clear hA hK
        cases hl : aheadB e[q]! e[pv0]! with
        | false =>
          rw [hl] at C
          have HLL : Hid _ := hl
          clear hl
          go_wp2_with fail
          refine C.mono ?_
          rintro e9 z4 ⟨rfl, bz⟩
          obtain ⟨hA, hK⟩ := RES.out z4 bz
          clear C bz RES
          obtain ⟨⟨mid, d4⟩, hR⟩ : ∃ R, Hid (R = Go.Sort.partitionEqual aheadB e a' b' pv0) := ⟨_, rfl⟩
          have C := partitionEqual_any hA a' b' pv0 pv1 pv2 (by omega) hN
          rw [← hR.out] at C
          have HK : Hid (Kp [g] w z4) := hK
          clear hA hK
          go_wp2_with fail
          refine C.mono ?_
          rintro e9 z5 ⟨rfl, A5, K5, m1, m2⟩
          have R2 : Hid (IsA z5 base g N cap d4 ∧ Kp [g] w z5) := ⟨A5, HK.out.trans K5⟩
          have HE2 : Hid (pdB d4 mid b' L' true false = T) := by
            show _ = T
            rw [← HE.out]
            have hq' := hq.out
            have hR' := hR.out
            have hL' := HLL.out
            subst hq'
            exact (r3_eq e q b' pv0 L' true false hL' mid d4 hR'.symm m1 m2).symm
          clear C A5 K5 HK HE hR HLL
          go_wp2_with fail
          exact ⟨⟨mid, b', L', true, false, _, rfl, rfl, rfl, rfl, rfl, by omega, by omega, by omega, by omega, by have := hln.out; omega, HE2.out, R2.out.1, R2.out.2⟩, by simp [intOf]; omega⟩
        | true =>
          rw [hl] at C
          have HL : Hid (¬ (0 < a' ∧ aheadB e[a' - 1]! e[pv0]! = false)) := fun h => by
            have h2 := h.2
            rw [show a' - 1 = q from by have := hq.out; omega, hl] at h2
            cases h2
          clear hl
          go_wp2_with fail
          refine C.mono ?_
          rintro e9 z4 ⟨rfl, bz⟩
          obtain ⟨hA, hK⟩ := RES.out z4 bz
          clear C bz RES
          obtain ⟨⟨mid, ap, d4⟩, hR⟩ : ∃ R, Hid (R = Go.Sort.partition aheadB e a' b' pv0) := ⟨_, rfl⟩
          have C := partition_any hA a' b' pv0 pv1 pv2 (by omega) hN
          rw [← hR.out] at C
          have HK : Hid (Kp [g] w z4) := hK
          clear hA hK
          go_wp2_with fail
          refine C.mono ?_
          rintro e9 z5 ⟨rfl, A5, K5, m1, m2⟩
          have K6 : Hid (Kp [g] w z5) := HK.out.trans K5
          clear C K5 HK
          obtain ⟨lf, hlf⟩ : ∃ lf, Hid (lf = mid - a') := ⟨_, rfl⟩
          obtain ⟨rt, hrt⟩ : ∃ rt, Hid (rt = b' - mid) := ⟨_, rfl⟩
          obtain ⟨th, hth⟩ : ∃ th, Hid (th = ln / 8) := ⟨_, rfl⟩
          have w5 : IntKind.i64.wrap ((mid : Int) - (a' : Int)) = (lf : Int) := by rw [hlf.out, IntKind.wrap_i64]; omega
          have w6 : IntKind.i64.wrap ((b' : Int) - (mid : Int)) = (rt : Int) := by rw [hrt.out, IntKind.wrap_i64]; omega
          have w7 : (ln : Int).tdiv 8 = (th : Int) := by rw [hth.out, Int.tdiv_eq_ediv_of_nonneg (by omega)]; omega
          have w8 : IntKind.i64.wrap (th : Int) = (th : Int) := by have := hth.out; have := hln.out; rw [IntKind.wrap_i64]; omega
          have w9 : IntKind.i64.wrap ((mid : Int) + 1) = ((mid + 1 : Nat) : Int) := by rw [IntKind.wrap_i64]; omega
          by_cases hlr : lf < rt
          · have gl : (lf : Int) < (rt : Int) := by omega
            have HE2 : Hid (pdB (pdB d4 a' mid L' true true) (mid + 1) b' L' (decide (mid - a' ≥ (b' - a') / 8)) ap = T) := by
              show _ = T
              rw [← HE.out]
              exact (r3_lt e a' b' pv0 L' true false HL.out mid ap d4 hR.out.symm m1 m2 (by have := hlf.out; have := hrt.out; omega)).symm
            have C := IH.out (mid - a') (by have := hln.out; omega) A5 a' mid L' m1 (by omega) (Nat.le_refl _) (by omega)
            clear A5 HE hR
            go_wp2_with fail
            refine C.mono ?_
            rintro e9 z6 ⟨rfl, A7, K7⟩
            have R2 : Hid (IsA z6 base g N cap (pdB d4 a' mid L' true true) ∧ Kp [g] w z6) := ⟨A7, K6.out.trans K7⟩
            clear C A7 K7 K6
            go_wp2_with fail
            refine ⟨⟨mid + 1, b', L', _, ap, _, rfl, rfl, rfl, rfl, rfl, by omega, by omega, by omega, by omega, by have := hln.out; omega, (congrArg (fun x => pdB _ (mid + 1) b' L' x ap) ?_).trans HE2.out, R2.out.1, R2.out.2⟩, by simp [intOf]; omega⟩
            have := hlf.out; have := hth.out; have := hln.out
            first | (rw [decide_eq_decide]; omega) | (simp; omega)
          · have gl : ¬ (lf : Int) < (rt : Int) := by omega
            have HE2 : Hid (pdB (pdB d4 (mid + 1) b' L' true true) a' mid L' (decide (b' - mid ≥ (b' - a') / 8)) ap = T) := by
              show _ = T
              rw [← HE.out]
              exact (r3_ge e a' b' pv0 L' true false HL.out mid ap d4 hR.out.symm m1 m2 (by have := hlf.out; have := hrt.out; omega)).symm
            have C := IH.out (b' - (mid + 1)) (by have := hln.out; omega) A5 (mid + 1) b' L' (by omega) (by omega) (Nat.le_refl _) (by omega)
            clear A5 HE hR
            go_wp2_with fail
            refine C.mono ?_
            rintro e9 z6 ⟨rfl, A7, K7⟩
            have R2 : Hid (IsA z6 base g N cap (pdB d4 (mid + 1) b' L' true true) ∧ Kp [g] w z6) := ⟨A7, K6.out.trans K7⟩
            clear C A7 K7 K6
            go_wp2_with fail
            refine ⟨⟨a', mid, L', _, ap, _, rfl, rfl, rfl, rfl, rfl, by omega, by omega, by omega, by omega, by have := hln.out; omega, (congrArg (fun x => pdB _ a' mid L' x ap) ?_).trans HE2.out, R2.out.1, R2.out.2⟩, by simp [intOf]; omega⟩
            have := hrt.out; have := hth.out; have := hln.out
            first | (rw [decide_eq_decide]; omega) | (simp; omega)
      | true =>
        cases hint with
        | decreasing =>
          have hv : hintV .decreasing = 2 := rfl
          have pw1 := pv1
          have pw2 := pv2
          clear pv1 pv2
          obtain ⟨d2, hd2⟩ : ∃ d2, Hid (d2 = Go.Sort.reverseRange e a' b') := ⟨_, rfl⟩
          obtain ⟨B1, hB1⟩ : ∃ B1, Hid (B1 = b' - 1) := ⟨_, rfl⟩
          obtain ⟨pa, hpa⟩ : ∃ pa, Hid (pa = pv0 - a') := ⟨_, rfl⟩
          obtain ⟨pv, hpv⟩ : ∃ pv, Hid (pv = (b' - 1) - (pv0 - a')) := ⟨_, rfl⟩
          have w2 : IntKind.i64.wrap ((b' : Int) - 1) = (B1 : Int) := by have := hB1.out; rw [IntKind.wrap_i64]; omega
          have w3 : IntKind.i64.wrap ((pv0 : Int) - (a' : Int)) = (pa : Int) := by have := hpa.out; rw [IntKind.wrap_i64]; omega
          have w4 : IntKind.i64.wrap ((B1 : Int) - (pa : Int)) = (pv : Int) := by have := hpa.out; have := hB1.out; have := hpv.out; rw [IntKind.wrap_i64]; omega
          have pv1 : a' ≤ pv := by have := hpv.out; omega
          have pv2 : pv < b' := by have := hpv.out; omega
          have C := reverseRange_any hA a' b' (by omega) (by omega) hN
          have HK : Hid (Kp [g] w z1) := hK
          clear hA hK
          go_wp2_with fail
          refine C.mono ?_
          rintro e9 z2 ⟨rfl, A5, K5⟩
          have hA : IsA z2 base g N cap (Go.Sort.reverseRange e a' b') := A5
          have hK : Kp [g] w z2 := HK.out.trans K5
          clear C A5 K5 HK
          rw [← hd2.out] at hA
          obtain ⟨⟨d3, B⟩, hR⟩ : ∃ R, Hid (R = Go.Sort.partialInsertionSort aheadB d2 a' b') := ⟨_, rfl⟩
          have HE3 : Hid ((if B then d3 else rest3 d3 a' b' pv L' true true) = T) := by
            show _ = T
            rw [← HE.out, r2_pid e a' b' L' pv0 hc.out.symm d3 B (by rw [← hd2.out]; exact hR.out.symm), hpv.out]
          have C := partialInsertionSort_any hA a' b' (by omega) (by omega) hN
          rw [← hR.out] at C
          have HK : Hid (Kp [g] w z2) := hK
          clear hA hK HE
          cases B with
          | true =>
            have eT : d3 = T := HE3.out
            subst eT
            go_wp2_with fail
            refine C.mono ?_
            rintro e9 z3 ⟨rfl, A5, K5⟩
            have R2 : Hid (IsA z3 base g N cap d3 ∧ Kp [g] w z3) := ⟨A5, HK.out.trans K5⟩
            clear C A5 K5 HK
            go_wp2_with fail
            first | go_end0 | refine bodyPost_ret (v := .tuple #[]) (by simp [results, Try.results46, go_sem]) rfl ?_
            exact ⟨rfl, R2.out⟩
          | false =>
            have HE : Hid (rest3 d3 a' b' pv L' true true = T) := HE3.out
            go_wp2_with fail
            refine C.mono ?_
            rintro e9 z3 ⟨rfl, A5, K5⟩
            have hA : IsA z3 base g N cap d3 := A5
            have hK : Kp [g] w z3 := HK.out.trans K5
            clear C A5 K5 HK HE3 hR
            by_cases h0 : a' = 0
            · have g3 : ¬ (a' : Int) > 0 := by omega
              have g4 : ¬ 0 < (a' : Int) := by omega
              have HL : Hid (¬ (0 < a' ∧ aheadB d3[a' - 1]! d3[pv]! = false)) := fun h => by have := h.1; omega
              have h00 : Hid (a' = 0) := h0
              clear h0
              obtain ⟨⟨mid, ap, d4⟩, hR⟩ : ∃ R, Hid (R = Go.Sort.partition aheadB d3 a' b' pv) := ⟨_, rfl⟩
              have C := partition_any hA a' b' pv pv1 pv2 (by omega) hN
              rw [← hR.out] at C
              have HK : Hid (Kp [g] w z3) := hK
              clear hA hK
              go_wp2_with fail
              refine C.mono ?_
              rintro e9 z5 ⟨rfl, A5, K5, m1, m2⟩
              have K6 : Hid (Kp [g] w z5) := HK.out.trans K5
              clear C K5 HK
              obtain ⟨lf, hlf⟩ : ∃ lf, Hid (lf = mid - a') := ⟨_, rfl⟩
              obtain ⟨rt, hrt⟩ : ∃ rt, Hid (rt = b' - mid) := ⟨_, rfl⟩
              obtain ⟨th, hth⟩ : ∃ th, Hid (th = ln / 8) := ⟨_, rfl⟩
              have w5 : IntKind.i64.wrap ((mid : Int) - (a' : Int)) = (lf : Int) := by rw [hlf.out, IntKind.wrap_i64]; omega
              have w6 : IntKind.i64.wrap ((b' : Int) - (mid : Int)) = (rt : Int) := by rw [hrt.out, IntKind.wrap_i64]; omega
              have w7 : (ln : Int).tdiv 8 = (th : Int) := by rw [hth.out, Int.tdiv_eq_ediv_of_nonneg (by omega)]; omega
              have w8 : IntKind.i64.wrap (th : Int) = (th : Int) := by have := hth.out; have := hln.out; rw [IntKind.wrap_i64]; omega
              have w9 : IntKind.i64.wrap ((mid : Int) + 1) = ((mid + 1 : Nat) : Int) := by rw [IntKind.wrap_i64]; omega
              by_cases hlr : lf < rt
              · have gl : (lf : Int) < (rt : Int) := by omega
                have HE2 : Hid (pdB (pdB d4 a' mid L' true true) (mid + 1) b' L' (decide (mid - a' ≥ (b' - a') / 8)) ap = T) := by
                  show _ = T
                  rw [← HE.out]
                  exact (r3_lt d3 a' b' pv L' true true HL.out mid ap d4 hR.out.symm m1 m2 (by have := hlf.out; have := hrt.out; omega)).symm
                have C := IH.out (mid - a') (by have := hln.out; omega) A5 a' mid L' m1 (by omega) (Nat.le_refl _) (by omega)
                clear A5 HE hR
                go_wp2_with fail
                refine C.mono ?_
                rintro e9 z6 ⟨rfl, A7, K7⟩
                have R2 : Hid (IsA z6 base g N cap (pdB d4 a' mid L' true true) ∧ Kp [g] w z6) := ⟨A7, K6.out.trans K7⟩
                clear C A7 K7 K6
                go_wp2_with fail
                refine ⟨⟨mid + 1, b', L', _, ap, _, rfl, rfl, rfl, rfl, rfl, by omega, by omega, by omega, by omega, by have := hln.out; omega, (congrArg (fun x => pdB _ (mid + 1) b' L' x ap) ?_).trans HE2.out, R2.out.1, R2.out.2⟩, by simp [intOf]; omega⟩
                have := hlf.out; have := hth.out; have := hln.out
                first | (rw [decide_eq_decide]; omega) | (simp; omega)
              · have gl : ¬ (lf : Int) < (rt : Int) := by omega
                have HE2 : Hid (pdB (pdB d4 (mid + 1) b' L' true true) a' mid L' (decide (b' - mid ≥ (b' - a') / 8)) ap = T) := by
                  show _ = T
                  rw [← HE.out]
                  exact (r3_ge d3 a' b' pv L' true true HL.out mid ap d4 hR.out.symm m1 m2 (by have := hlf.out; have := hrt.out; omega)).symm
                have C := IH.out (b' - (mid + 1)) (by have := hln.out; omega) A5 (mid + 1) b' L' (by omega) (by omega) (Nat.le_refl _) (by omega)
                clear A5 HE hR
                go_wp2_with fail
                refine C.mono ?_
                rintro e9 z6 ⟨rfl, A7, K7⟩
                have R2 : Hid (IsA z6 base g N cap (pdB d4 (mid + 1) b' L' true true) ∧ Kp [g] w z6) := ⟨A7, K6.out.trans K7⟩
                clear C A7 K7 K6
                go_wp2_with fail
                refine ⟨⟨a', mid, L', _, ap, _, rfl, rfl, rfl, rfl, rfl, by omega, by omega, by omega, by omega, by have := hln.out; omega, (congrArg (fun x => pdB _ a' mid L' x ap) ?_).trans HE2.out, R2.out.1, R2.out.2⟩, by simp [intOf]; omega⟩
                have := hrt.out; have := hth.out; have := hln.out
                first | (rw [decide_eq_decide]; omega) | (simp; omega)
            have g3 : (a' : Int) > 0 := by omega
            have g4 : 0 < (a' : Int) := by omega
            obtain ⟨q, hq⟩ : ∃ q, Hid (a' = q + 1) := ⟨a' - 1, by show a' = _; omega⟩
            have wq : IntKind.i64.wrap ((a' : Int) - 1) = (q : Int) := by have := hq.out; rw [IntKind.wrap_i64]; omega
            have C := lessA hA q pv (by have := hq.out; omega) (by omega)
            have RES : Hid (∀ z, Below z3.heap.size z3 z → IsA z base g N cap d3 ∧ Kp [g] w z) := fun z hz => ⟨hA.next hz, hK.trans (Kp.of hz)⟩
            clear hA hK
            cases hl : aheadB d3[q]! d3[pv]! with
            | false =>
              rw [hl] at C
              have HLL : Hid _ := hl
              clear hl
              go_wp2_with fail
              refine C.mono ?_
              rintro e9 z4 ⟨rfl, bz⟩
              obtain ⟨hA, hK⟩ := RES.out z4 bz
              clear C bz RES
              obtain ⟨⟨mid, d4⟩, hR⟩ : ∃ R, Hid (R = Go.Sort.partitionEqual aheadB d3 a' b' pv) := ⟨_, rfl⟩
              have C := partitionEqual_any hA a' b' pv pv1 pv2 (by omega) hN
              rw [← hR.out] at C
              have HK : Hid (Kp [g] w z4) := hK
              clear hA hK
              go_wp2_with fail
              refine C.mono ?_
              rintro e9 z5 ⟨rfl, A5, K5, m1, m2⟩
              have R2 : Hid (IsA z5 base g N cap d4 ∧ Kp [g] w z5) := ⟨A5, HK.out.trans K5⟩
              have HE2 : Hid (pdB d4 mid b' L' true true = T) := by
                show _ = T
                rw [← HE.out]
                have hq' := hq.out
                have hR' := hR.out
                have hL' := HLL.out
                subst hq'
                exact (r3_eq d3 q b' pv L' true true hL' mid d4 hR'.symm m1 m2).symm
              clear C A5 K5 HK HE hR HLL
              go_wp2_with fail
              exact ⟨⟨mid, b', L', true, true, _, rfl, rfl, rfl, rfl, rfl, by omega, by omega, by omega, by omega, by have := hln.out; omega, HE2.out, R2.out.1, R2.out.2⟩, by simp [intOf]; omega⟩
            | true =>
              rw [hl] at C
              have HL : Hid (¬ (0 < a' ∧ aheadB d3[a' - 1]! d3[pv]! = false)) := fun h => by
                have h2 := h.2
                rw [show a' - 1 = q from by have := hq.out; omega, hl] at h2
                cases h2
              clear hl
              go_wp2_with fail
              refine C.mono ?_
              rintro e9 z4 ⟨rfl, bz⟩
              obtain ⟨hA, hK⟩ := RES.out z4 bz
              clear C bz RES
              obtain ⟨⟨mid, ap, d4⟩, hR⟩ : ∃ R, Hid (R = Go.Sort.partition aheadB d3 a' b' pv) := ⟨_, rfl⟩
              have C := partition_any hA a' b' pv pv1 pv2 (by omega) hN
              rw [← hR.out] at C
              have HK : Hid (Kp [g] w z4) := hK
              clear hA hK
              go_wp2_with fail
              refine C.mono ?_
              rintro e9 z5 ⟨rfl, A5, K5, m1, m2⟩
              have K6 : Hid (Kp [g] w z5) := HK.out.trans K5
              clear C K5 HK
              obtain ⟨lf, hlf⟩ : ∃ lf, Hid (lf = mid - a') := ⟨_, rfl⟩
              obtain ⟨rt, hrt⟩ : ∃ rt, Hid (rt = b' - mid) := ⟨_, rfl⟩
              obtain ⟨th, hth⟩ : ∃ th, Hid (th = ln / 8) := ⟨_, rfl⟩
              have w5 : IntKind.i64.wrap ((mid : Int) - (a' : Int)) = (lf : Int) := by rw [hlf.out, IntKind.wrap_i64]; omega
              have w6 : IntKind.i64.wrap ((b' : Int) - (mid : Int)) = (rt : Int) := by rw [hrt.out, IntKind.wrap_i64]; omega
              have w7 : (ln : Int).tdiv 8 = (th : Int) := by rw [hth.out, Int.tdiv_eq_ediv_of_nonneg (by omega)]; omega
              have w8 : IntKind.i64.wrap (th : Int) = (th : Int) := by have := hth.out; have := hln.out; rw [IntKind.wrap_i64]; omega
              have w9 : IntKind.i64.wrap ((mid : Int) + 1) = ((mid + 1 : Nat) : Int) := by rw [IntKind.wrap_i64]; omega
              by_cases hlr : lf < rt
              · have gl : (lf : Int) < (rt : Int) := by omega
                have HE2 : Hid (pdB (pdB d4 a' mid L' true true) (mid + 1) b' L' (decide (mid - a' ≥ (b' - a') / 8)) ap = T) := by
                  show _ = T
                  rw [← HE.out]
                  exact (r3_lt d3 a' b' pv L' true true HL.out mid ap d4 hR.out.symm m1 m2 (by have := hlf.out; have := hrt.out; omega)).symm
                have C := IH.out (mid - a') (by have := hln.out; omega) A5 a' mid L' m1 (by omega) (Nat.le_refl _) (by omega)
                clear A5 HE hR
                go_wp2_with fail
                refine C.mono ?_
                rintro e9 z6 ⟨rfl, A7, K7⟩
                have R2 : Hid (IsA z6 base g N cap (pdB d4 a' mid L' true true) ∧ Kp [g] w z6) := ⟨A7, K6.out.trans K7⟩
                clear C A7 K7 K6
                go_wp2_with fail
                refine ⟨⟨mid + 1, b', L', _, ap, _, rfl, rfl, rfl, rfl, rfl, by omega, by omega, by omega, by omega, by have := hln.out; omega, (congrArg (fun x => pdB _ (mid + 1) b' L' x ap) ?_).trans HE2.out, R2.out.1, R2.out.2⟩, by simp [intOf]; omega⟩
                have := hlf.out; have := hth.out; have := hln.out
                first | (rw [decide_eq_decide]; omega) | (simp; omega)
              · have gl : ¬ (lf : Int) < (rt : Int) := by omega
                have HE2 : Hid (pdB (pdB d4 (mid + 1) b' L' true true) a' mid L' (decide (b' - mid ≥ (b' - a') / 8)) ap = T) := by
                  show _ = T
                  rw [← HE.out]
                  exact (r3_ge d3 a' b' pv L' true true HL.out mid ap d4 hR.out.symm m1 m2 (by have := hlf.out; have := hrt.out; omega)).symm
                have C := IH.out (b' - (mid + 1)) (by have := hln.out; omega) A5 (mid + 1) b' L' (by omega) (by omega) (Nat.le_refl _) (by omega)
                clear A5 HE hR
                go_wp2_with fail
                refine C.mono ?_
                rintro e9 z6 ⟨rfl, A7, K7⟩
                have R2 : Hid (IsA z6 base g N cap (pdB d4 (mid + 1) b' L' true true) ∧ Kp [g] w z6) := ⟨A7, K6.out.trans K7⟩
                clear C A7 K7 K6
                go_wp2_with fail
                refine ⟨⟨a', mid, L', _, ap, _, rfl, rfl, rfl, rfl, rfl, by omega, by omega, by omega, by omega, by have := hln.out; omega, (congrArg (fun x => pdB _ a' mid L' x ap) ?_).trans HE2.out, R2.out.1, R2.out.2⟩, by simp [intOf]; omega⟩
                have := hrt.out; have := hth.out; have := hln.out
                first | (rw [decide_eq_decide]; omega) | (simp; omega)
        | increasing =>
          have hv : hintV .increasing = 1 := rfl
          obtain ⟨⟨d3, B⟩, hR⟩ : ∃ R, Hid (R = Go.Sort.partialInsertionSort aheadB e a' b') := ⟨_, rfl⟩
          have HE3 : Hid ((if B then d3 else rest3 d3 a' b' pv0 L' true true) = T) := by
            show _ = T
            rw [← HE.out, r2_pii e a' b' L' pv0 hc.out.symm d3 B hR.out.symm]
          have C := partialInsertionSort_any hA a' b' (by omega) (by omega) hN
          rw [← hR.out] at C
          have HK : Hid (Kp [g] w z1) := hK
          clear hA hK HE
          cases B with
          | true =>
            have eT : d3 = T := HE3.out
            subst eT
            go_wp2_with fail
            refine C.mono ?_
            rintro e9 z3 ⟨rfl, A5, K5⟩
            have R2 : Hid (IsA z3 base g N cap d3 ∧ Kp [g] w z3) := ⟨A5, HK.out.trans K5⟩
            clear C A5 K5 HK
            go_wp2_with fail
            first | go_end0 | refine bodyPost_ret (v := .tuple #[]) (by simp [results, Try.results46, go_sem]) rfl ?_
            exact ⟨rfl, R2.out⟩
          | false =>
            have HE : Hid (rest3 d3 a' b' pv0 L' true true = T) := HE3.out
            go_wp2_with fail
            refine C.mono ?_
            rintro e9 z3 ⟨rfl, A5, K5⟩
            have hA : IsA z3 base g N cap d3 := A5
            have hK : Kp [g] w z3 := HK.out.trans K5
            clear C A5 K5 HK HE3 hR
            by_cases h0 : a' = 0
            · have g3 : ¬ (a' : Int) > 0 := by omega
              have g4 : ¬ 0 < (a' : Int) := by omega
              have HL : Hid (¬ (0 < a' ∧ aheadB d3[a' - 1]! d3[pv0]! = false)) := fun h => by have := h.1; omega
              have h00 : Hid (a' = 0) := h0
              clear h0
              obtain ⟨⟨mid, ap, d4⟩, hR⟩ : ∃ R, Hid (R = Go.Sort.partition aheadB d3 a' b' pv0) := ⟨_, rfl⟩
              have C := partition_any hA a' b' pv0 pv1 pv2 (by omega) hN
              rw [← hR.out] at C
              have HK : Hid (Kp [g] w z3) := hK
              clear hA hK
              go_wp2_with fail
              refine C.mono ?_
              rintro e9 z5 ⟨rfl, A5, K5, m1, m2⟩
              have K6 : Hid (Kp [g] w z5) := HK.out.trans K5
              clear C K5 HK
              obtain ⟨lf, hlf⟩ : ∃ lf, Hid (lf = mid - a') := ⟨_, rfl⟩
              obtain ⟨rt, hrt⟩ : ∃ rt, Hid (rt = b' - mid) := ⟨_, rfl⟩
              obtain ⟨th, hth⟩ : ∃ th, Hid (th = ln / 8) := ⟨_, rfl⟩
              have w5 : IntKind.i64.wrap ((mid : Int) - (a' : Int)) = (lf : Int) := by rw [hlf.out, IntKind.wrap_i64]; omega
              have w6 : IntKind.i64.wrap ((b' : Int) - (mid : Int)) = (rt : Int) := by rw [hrt.out, IntKind.wrap_i64]; omega
              have w7 : (ln : Int).tdiv 8 = (th : Int) := by rw [hth.out, Int.tdiv_eq_ediv_of_nonneg (by omega)]; omega
              have w8 : IntKind.i64.wrap (th : Int) = (th : Int) := by have := hth.out; have := hln.out; rw [IntKind.wrap_i64]; omega
              have w9 : IntKind.i64.wrap ((mid : Int) + 1) = ((mid + 1 : Nat) : Int) := by rw [IntKind.wrap_i64]; omega
              by_cases hlr : lf < rt
              · have gl : (lf : Int) < (rt : Int) := by omega
                have HE2 : Hid (pdB (pdB d4 a' mid L' true true) (mid + 1) b' L' (decide (mid - a' ≥ (b' - a') / 8)) ap = T) := by
                  show _ = T
                  rw [← HE.out]
                  exact (r3_lt d3 a' b' pv0 L' true true HL.out mid ap d4 hR.out.symm m1 m2 (by have := hlf.out; have := hrt.out; omega)).symm
                have C := IH.out (mid - a') (by have := hln.out; omega) A5 a' mid L' m1 (by omega) (Nat.le_refl _) (by omega)
                clear A5 HE hR
                go_wp2_with fail
                refine C.mono ?_
                rintro e9 z6 ⟨rfl, A7, K7⟩
                have R2 : Hid (IsA z6 base g N cap (pdB d4 a' mid L' true true) ∧ Kp [g] w z6) := ⟨A7, K6.out.trans K7⟩
                clear C A7 K7 K6
                go_wp2_with fail
                refine ⟨⟨mid + 1, b', L', _, ap, _, rfl, rfl, rfl, rfl, rfl, by omega, by omega, by omega, by omega, by have := hln.out; omega, (congrArg (fun x => pdB _ (mid + 1) b' L' x ap) ?_).trans HE2.out, R2.out.1, R2.out.2⟩, by simp [intOf]; omega⟩
                have := hlf.out; have := hth.out; have := hln.out
                first | (rw [decide_eq_decide]; omega) | (simp; omega)
              · have gl : ¬ (lf : Int) < (rt : Int) := by omega
                have HE2 : Hid (pdB (pdB d4 (mid + 1) b' L' true true) a' mid L' (decide (b' - mid ≥ (b' - a') / 8)) ap = T) := by
                  show _ = T
                  rw [← HE.out]
                  exact (r3_ge d3 a' b' pv0 L' true true HL.out mid ap d4 hR.out.symm m1 m2 (by have := hlf.out; have := hrt.out; omega)).symm
                have C := IH.out (b' - (mid + 1)) (by have := hln.out; omega) A5 (mid + 1) b' L' (by omega) (by omega) (Nat.le_refl _) (by omega)
                clear A5 HE hR
                go_wp2_with fail
                refine C.mono ?_
                rintro e9 z6 ⟨rfl, A7, K7⟩
                have R2 : Hid (IsA z6 base g N cap (pdB d4 (mid + 1) b' L' true true) ∧ Kp [g] w z6) := ⟨A7, K6.out.trans K7⟩
                clear C A7 K7 K6
                go_wp2_with fail
                refine ⟨⟨a', mid, L', _, ap, _, rfl, rfl, rfl, rfl, rfl, by omega, by omega, by omega, by omega, by have := hln.out; omega, (congrArg (fun x => pdB _ a' mid L' x ap) ?_).trans HE2.out, R2.out.1, R2.out.2⟩, by simp [intOf]; omega⟩
                have := hrt.out; have := hth.out; have := hln.out
                first | (rw [decide_eq_decide]; omega) | (simp; omega)
            have g3 : (a' : Int) > 0 := by omega
            have g4 : 0 < (a' : Int) := by omega
            obtain ⟨q, hq⟩ : ∃ q, Hid (a' = q + 1) := ⟨a' - 1, by show a' = _; omega⟩
            have wq : IntKind.i64.wrap ((a' : Int) - 1) = (q : Int) := by have := hq.out; rw [IntKind.wrap_i64]; omega
            have C := lessA hA q pv0 (by have := hq.out; omega) (by omega)
            have RES : Hid (∀ z, Below z3.heap.size z3 z → IsA z base g N cap d3 ∧ Kp [g] w z) := fun z hz => ⟨hA.next hz, hK.trans (Kp.of hz)⟩
            clear hA hK
            cases hl : aheadB d3[q]! d3[pv0]! with
            | false =>
              rw [hl] at C
              have HLL : Hid _ := hl
              clear hl
              go_wp2_with fail
              refine C.mono ?_
              rintro e9 z4 ⟨rfl, bz⟩
              obtain ⟨hA, hK⟩ := RES.out z4 bz
              clear C bz RES
              obtain ⟨⟨mid, d4⟩, hR⟩ : ∃ R, Hid (R = Go.Sort.partitionEqual aheadB d3 a' b' pv0) := ⟨_, rfl⟩
              have C := partitionEqual_any hA a' b' pv0 pv1 pv2 (by omega) hN
              rw [← hR.out] at C
              have HK : Hid (Kp [g] w z4) := hK
              clear hA hK
              go_wp2_with fail
              refine C.mono ?_
              rintro e9 z5 ⟨rfl, A5, K5, m1, m2⟩
              have R2 : Hid (IsA z5 base g N cap d4 ∧ Kp [g] w z5) := ⟨A5, HK.out.trans K5⟩
              have HE2 : Hid (pdB d4 mid b' L' true true = T) := by
                show _ = T
                rw [← HE.out]
                have hq' := hq.out
                have hR' := hR.out
                have hL' := HLL.out
                subst hq'
                exact (r3_eq d3 q b' pv0 L' true true hL' mid d4 hR'.symm m1 m2).symm
              clear C A5 K5 HK HE hR HLL
              go_wp2_with fail
              exact ⟨⟨mid, b', L', true, true, _, rfl, rfl, rfl, rfl, rfl, by omega, by omega, by omega, by omega, by have := hln.out; omega, HE2.out, R2.out.1, R2.out.2⟩, by simp [intOf]; omega⟩
            | true =>
              rw [hl] at C
              have HL : Hid (¬ (0 < a' ∧ aheadB d3[a' - 1]! d3[pv0]! = false)) := fun h => by
                have h2 := h.2
                rw [show a' - 1 = q from by have := hq.out; omega, hl] at h2
                cases h2
              clear hl
              go_wp2_with fail
              refine C.mono ?_
              rintro e9 z4 ⟨rfl, bz⟩
              obtain ⟨hA, hK⟩ := RES.out z4 bz
              clear C bz RES
              obtain ⟨⟨mid, ap, d4⟩, hR⟩ : ∃ R, Hid (R = Go.Sort.partition aheadB d3 a' b' pv0) := ⟨_, rfl⟩
              have C := partition_any hA a' b' pv0 pv1 pv2 (by omega) hN
              rw [← hR.out] at C
              have HK : Hid (Kp [g] w z4) := hK
              clear hA hK
              go_wp2_with fail
              refine C.mono ?_
              rintro e9 z5 ⟨rfl, A5, K5, m1, m2⟩
              have K6 : Hid (Kp [g] w z5) := HK.out.trans K5
              clear C K5 HK
              obtain ⟨lf, hlf⟩ : ∃ lf, Hid (lf = mid - a') := ⟨_, rfl⟩
              obtain ⟨rt, hrt⟩ : ∃ rt, Hid (rt = b' - mid) := ⟨_, rfl⟩
              obtain ⟨th, hth⟩ : ∃ th, Hid (th = ln / 8) := ⟨_, rfl⟩
              have w5 : IntKind.i64.wrap ((mid : Int) - (a' : Int)) = (lf : Int) := by rw [hlf.out, IntKind.wrap_i64]; omega
              have w6 : IntKind.i64.wrap ((b' : Int) - (mid : Int)) = (rt : Int) := by rw [hrt.out, IntKind.wrap_i64]; omega
              have w7 : (ln : Int).tdiv 8 = (th : Int) := by rw [hth.out, Int.tdiv_eq_ediv_of_nonneg (by omega)]; omega
              have w8 : IntKind.i64.wrap (th : Int) = (th : Int) := by have := hth.out; have := hln.out; rw [IntKind.wrap_i64]; omega
              have w9 : IntKind.i64.wrap ((mid : Int) + 1) = ((mid + 1 : Nat) : Int) := by rw [IntKind.wrap_i64]; omega
              by_cases hlr : lf < rt
              · have gl : (lf : Int) < (rt : Int) := by omega
                have HE2 : Hid (pdB (pdB d4 a' mid L' true true) (mid + 1) b' L' (decide (mid - a' ≥ (b' - a') / 8)) ap = T) := by
                  show _ = T
                  rw [← HE.out]
                  exact (r3_lt d3 a' b' pv0 L' true true HL.out mid ap d4 hR.out.symm m1 m2 (by have := hlf.out; have := hrt.out; omega)).symm
                have C := IH.out (mid - a') (by have := hln.out; omega) A5 a' mid L' m1 (by omega) (Nat.le_refl _) (by omega)
                clear A5 HE hR
                go_wp2_with fail
                refine C.mono ?_
                rintro e9 z6 ⟨rfl, A7, K7⟩
                have R2 : Hid (IsA z6 base g N cap (pdB d4 a' mid L' true true) ∧ Kp [g] w z6) := ⟨A7, K6.out.trans K7⟩
                clear C A7 K7 K6
                go_wp2_with fail
                refine ⟨⟨mid + 1, b', L', _, ap, _, rfl, rfl, rfl, rfl, rfl, by omega, by omega, by omega, by omega, by have := hln.out; omega, (congrArg (fun x => pdB _ (mid + 1) b' L' x ap) ?_).trans HE2.out, R2.out.1, R2.out.2⟩, by simp [intOf]; omega⟩
                have := hlf.out; have := hth.out; have := hln.out
                first | (rw [decide_eq_decide]; omega) | (simp; omega)
              · have gl : ¬ (lf : Int) < (rt : Int) := by omega
                have HE2 : Hid (pdB (pdB d4 (mid + 1) b' L' true true) a' mid L' (decide (b' - mid ≥ (b' - a') / 8)) ap = T) := by
                  show _ = T
                  rw [← HE.out]
                  exact (r3_ge d3 a' b' pv0 L' true true HL.out mid ap d4 hR.out.symm m1 m2 (by have := hlf.out; have := hrt.out; omega)).symm
                have C := IH.out (b' - (mid + 1)) (by have := hln.out; omega) A5 (mid + 1) b' L' (by omega) (by omega) (Nat.le_refl _) (by omega)
                clear A5 HE hR
                go_wp2_with fail
                refine C.mono ?_
                rintro e9 z6 ⟨rfl, A7, K7⟩
                have R2 : Hid (IsA z6 base g N cap (pdB d4 (mid + 1) b' L' true true) ∧ Kp [g] w z6) := ⟨A7, K6.out.trans K7⟩
                clear C A7 K7 K6
                go_wp2_with fail
                refine ⟨⟨a', mid, L', _, ap, _, rfl, rfl, rfl, rfl, rfl, by omega, by omega, by omega, by omega, by have := hln.out; omega, (congrArg (fun x => pdB _ a' mid L' x ap) ?_).trans HE2.out, R2.out.1, R2.out.2⟩, by simp [intOf]; omega⟩
                have := hrt.out; have := hth.out; have := hln.out
                first | (rw [decide_eq_decide]; omega) | (simp; omega)
        | unknown =>
          have hv : hintV .unknown = 0 := rfl
          have HE2 : Hid (rest3 e a' b' pv0 L' true true = T) := by
            show _ = T
            rw [← HE.out, r2_unk e a' b' L' pv0 hc.out.symm]
          clear HE
          have HE := HE2
          clear HE2
          by_cases h0 : a' = 0
          · have g3 : ¬ (a' : Int) > 0 := by omega
            have g4 : ¬ 0 < (a' : Int) := by omega
            have HL : Hid (¬ (0 < a' ∧ aheadB e[a' - 1]! e[pv0]! = false)) := fun h => by have := h.1; omega
            have h00 : Hid (a' = 0) := h0
            clear h0
            obtain ⟨⟨mid, ap, d4⟩, hR⟩ : ∃ R, Hid (R = Go.Sort.partition aheadB e a' b' pv0) := ⟨_, rfl⟩
            have C := partition_any hA a' b' pv0 pv1 pv2 (by omega) hN
            rw [← hR.out] at C
            have HK : Hid (Kp [g] w z1) := hK
            clear hA hK
            go_wp2_with fail
            refine C.mono ?_
            rintro e9 z5 ⟨rfl, A5, K5, m1, m2⟩
            have K6 : Hid (Kp [g] w z5) := HK.out.trans K5
            clear C K5 HK
            obtain ⟨lf, hlf⟩ : ∃ lf, Hid (lf = mid - a') := ⟨_, rfl⟩
            obtain ⟨rt, hrt⟩ : ∃ rt, Hid (rt = b' - mid) := ⟨_, rfl⟩
            obtain ⟨th, hth⟩ : ∃ th, Hid (th = ln / 8) := ⟨_, rfl⟩
            have w5 : IntKind.i64.wrap ((mid : Int) - (a' : Int)) = (lf : Int) := by rw [hlf.out, IntKind.wrap_i64]; omega
            have w6 : IntKind.i64.wrap ((b' : Int) - (mid : Int)) = (rt : Int) := by rw [hrt.out, IntKind.wrap_i64]; omega
            have w7 : (ln : Int).tdiv 8 = (th : Int) := by rw [hth.out, Int.tdiv_eq_ediv_of_nonneg (by omega)]; omega
            have w8 : IntKind.i64.wrap (th : Int) = (th : Int) := by have := hth.out; have := hln.out; rw [IntKind.wrap_i64]; omega
            have w9 : IntKind.i64.wrap ((mid : Int) + 1) = ((mid + 1 : Nat) : Int) := by rw [IntKind.wrap_i64]; omega
            by_cases hlr : lf < rt
            · have gl : (lf : Int) < (rt : Int) := by omega
              have HE2 : Hid (pdB (pdB d4 a' mid L' true true) (mid + 1) b' L' (decide (mid - a' ≥ (b' - a') / 8)) ap = T) := by
                show _ = T
                rw [← HE.out]
                exact (r3_lt e a' b' pv0 L' true true HL.out mid ap d4 hR.out.symm m1 m2 (by have := hlf.out; have := hrt.out; omega)).symm
              have C := IH.out (mid - a') (by have := hln.out; omega) A5 a' mid L' m1 (by omega) (Nat.le_refl _) (by omega)
              clear A5 HE hR
              go_wp2_with fail
              refine C.mono ?_
              rintro e9 z6 ⟨rfl, A7, K7⟩
              have R2 : Hid (IsA z6 base g N cap (pdB d4 a' mid L' true true) ∧ Kp [g] w z6) := ⟨A7, K6.out.trans K7⟩
              clear C A7 K7 K6
              go_wp2_with fail
              refine ⟨⟨mid + 1, b', L', _, ap, _, rfl, rfl, rfl, rfl, rfl, by omega, by omega, by omega, by omega, by have := hln.out; omega, (congrArg (fun x => pdB _ (mid + 1) b' L' x ap) ?_).trans HE2.out, R2.out.1, R2.out.2⟩, by simp [intOf]; omega⟩
              have := hlf.out; have := hth.out; have := hln.out
              first | (rw [decide_eq_decide]; omega) | (simp; omega)
            · have gl : ¬ (lf : Int) < (rt : Int) := by omega
              have HE2 : Hid (pdB (pdB d4 (mid + 1) b' L' true true) a' mid L' (decide (b' - mid ≥ (b' - a') / 8)) ap = T) := by
                show _ = T
                rw [← HE.out]
                exact (r3_ge e a' b' pv0 L' true true HL.out mid ap d4 hR.out.symm m1 m2 (by have := hlf.out; have := hrt.out; omega)).symm
              have C := IH.out (b' - (mid + 1)) (by have := hln.out; omega) A5 (mid + 1) b' L' (by omega) (by omega) (Nat.le_refl _) (by omega)
              clear A5 HE hR
              go_wp2_with fail
              refine C.mono ?_
              rintro e9 z6 ⟨rfl, A7, K7⟩
              have R2 : Hid (IsA z6 base g N cap (pdB d4 (mid + 1) b' L' true true) ∧ Kp [g] w z6) := ⟨A7, K6.out.trans K7⟩
              clear C A7 K7 K6
              go_wp2_with fail
              refine ⟨⟨a', mid, L', _, ap, _, rfl, rfl, rfl, rfl, rfl, by omega, by omega, by omega, by omega, by have := hln.out; omega, (congrArg (fun x => pdB _ a' mid L' x ap) ?_).trans HE2.out, R2.out.1, R2.out.2⟩, by simp [intOf]; omega⟩
              have := hrt.out; have := hth.out; have := hln.out
              first | (rw [decide_eq_decide]; omega) | (simp; omega)
          have g3 : (a' : Int) > 0 := by omega
          have g4 : 0 < (a' : Int) := by omega
          obtain ⟨q, hq⟩ : ∃ q, Hid (a' = q + 1) := ⟨a' - 1, by show a' = _; omega⟩
          have wq : IntKind.i64.wrap ((a' : Int) - 1) = (q : Int) := by have := hq.out; rw [IntKind.wrap_i64]; omega
          have C := lessA hA q pv0 (by have := hq.out; omega) (by omega)
          have RES : Hid (∀ z, Below z1.heap.size z1 z → IsA z base g N cap e ∧ Kp [g] w z) := fun z hz => ⟨hA.next hz, hK.trans (Kp.of hz)⟩
          clear hA hK
          cases hl : aheadB e[q]! e[pv0]! with
          | false =>
            rw [hl] at C
            have HLL : Hid _ := hl
            clear hl
            go_wp2_with fail
            refine C.mono ?_
            rintro e9 z4 ⟨rfl, bz⟩
            obtain ⟨hA, hK⟩ := RES.out z4 bz
            clear C bz RES
            obtain ⟨⟨mid, d4⟩, hR⟩ : ∃ R, Hid (R = Go.Sort.partitionEqual aheadB e a' b' pv0) := ⟨_, rfl⟩
            have C := partitionEqual_any hA a' b' pv0 pv1 pv2 (by omega) hN
            rw [← hR.out] at C
            have HK : Hid (Kp [g] w z4) := hK
            clear hA hK
            go_wp2_with fail
            refine C.mono ?_
            rintro e9 z5 ⟨rfl, A5, K5, m1, m2⟩
            have R2 : Hid (IsA z5 base g N cap d4 ∧ Kp [g] w z5) := ⟨A5, HK.out.trans K5⟩
            have HE2 : Hid (pdB d4 mid b' L' true true = T) := by
              show _ = T
              rw [← HE.out]
              have hq' := hq.out
              have hR' := hR.out
              have hL' := HLL.out
              subst hq'
              exact (r3_eq e q b' pv0 L' true true hL' mid d4 hR'.symm m1 m2).symm
            clear C A5 K5 HK HE hR HLL
            go_wp2_with fail
            exact ⟨⟨mid, b', L', true, true, _, rfl, rfl, rfl, rfl, rfl, by omega, by omega, by omega, by omega, by have := hln.out; omega, HE2.out, R2.out.1, R2.out.2⟩, by simp [intOf]; omega⟩
          | true =>
            rw [hl] at C
            have HL : Hid (¬ (0 < a' ∧ aheadB e[a' - 1]! e[pv0]! = false)) := fun h => by
              have h2 := h.2
              rw [show a' - 1 = q from by have := hq.out; omega, hl] at h2
              cases h2
            clear hl
            go_wp2_with fail
            refine C.mono ?_
            rintro e9 z4 ⟨rfl, bz⟩
            obtain ⟨hA, hK⟩ := RES.out z4 bz
            clear C bz RES
            obtain ⟨⟨mid, ap, d4⟩, hR⟩ : ∃ R, Hid (R = Go.Sort.partition aheadB e a' b' pv0) := ⟨_, rfl⟩
            have C := partition_any hA a' b' pv0 pv1 pv2 (by omega) hN
            rw [← hR.out] at C
            have HK : Hid (Kp [g] w z4) := hK
            clear hA hK
            go_wp2_with fail
            refine C.mono ?_
            rintro e9 z5 ⟨rfl, A5, K5, m1, m2⟩
            have K6 : Hid (Kp [g] w z5) := HK.out.trans K5
            clear C K5 HK
            obtain ⟨lf, hlf⟩ : ∃ lf, Hid (lf = mid - a') := ⟨_, rfl⟩
            obtain ⟨rt, hrt⟩ : ∃ rt, Hid (rt = b' - mid) := ⟨_, rfl⟩
            obtain ⟨th, hth⟩ : ∃ th, Hid (th = ln / 8) := ⟨_, rfl⟩
            have w5 : IntKind.i64.wrap ((mid : Int) - (a' : Int)) = (lf : Int) := by rw [hlf.out, IntKind.wrap_i64]; omega
            have w6 : IntKind.i64.wrap ((b' : Int) - (mid : Int)) = (rt : Int) := by rw [hrt.out, IntKind.wrap_i64]; omega
            have w7 : (ln : Int).tdiv 8 = (th : Int) := by rw [hth.out, Int.tdiv_eq_ediv_of_nonneg (by omega)]; omega
            have w8 : IntKind.i64.wrap (th : Int) = (th : Int) := by have := hth.out; have := hln.out; rw [IntKind.wrap_i64]; omega
            have w9 : IntKind.i64.wrap ((mid : Int) + 1) = ((mid + 1 : Nat) : Int) := by rw [IntKind.wrap_i64]; omega
            by_cases hlr : lf < rt
            · have gl : (lf : Int) < (rt : Int) := by omega
              have HE2 : Hid (pdB (pdB d4 a' mid L' true true) (mid + 1) b' L' (decide (mid - a' ≥ (b' - a') / 8)) ap = T) := by
                show _ = T
                rw [← HE.out]
                exact (r3_lt e a' b' pv0 L' true true HL.out mid ap d4 hR.out.symm m1 m2 (by have := hlf.out; have := hrt.out; omega)).symm
              have C := IH.out (mid - a') (by have := hln.out; omega) A5 a' mid L' m1 (by omega) (Nat.le_refl _) (by omega)
              clear A5 HE hR
              go_wp2_with fail
              refine C.mono ?_
              rintro e9 z6 ⟨rfl, A7, K7⟩
              have R2 : Hid (IsA z6 base g N cap (pdB d4 a' mid L' true true) ∧ Kp [g] w z6) := ⟨A7, K6.out.trans K7⟩
              clear C A7 K7 K6
              go_wp2_with fail
              refine ⟨⟨mid + 1, b', L', _, ap, _, rfl, rfl, rfl, rfl, rfl, by omega, by omega, by omega, by omega, by have := hln.out; omega, (congrArg (fun x => pdB _ (mid + 1) b' L' x ap) ?_).trans HE2.out, R2.out.1, R2.out.2⟩, by simp [intOf]; omega⟩
              have := hlf.out; have := hth.out; have := hln.out
              first | (rw [decide_eq_decide]; omega) | (simp; omega)
            · have gl : ¬ (lf : Int) < (rt : Int) := by omega
              have HE2 : Hid (pdB (pdB d4 (mid + 1) b' L' true true) a' mid L' (decide (b' - mid ≥ (b' - a') / 8)) ap = T) := by
                show _ = T
                rw [← HE.out]
                exact (r3_ge e a' b' pv0 L' true true HL.out mid ap d4 hR.out.symm m1 m2 (by have := hlf.out; have := hrt.out; omega)).symm
              have C := IH.out (b' - (mid + 1)) (by have := hln.out; omega) A5 (mid + 1) b' L' (by omega) (by omega) (Nat.le_refl _) (by omega)
              clear A5 HE hR
              go_wp2_with fail
              refine C.mono ?_
              rintro e9 z6 ⟨rfl, A7, K7⟩
              have R2 : Hid (IsA z6 base g N cap (pdB d4 (mid + 1) b' L' true true) ∧ Kp [g] w z6) := ⟨A7, K6.out.trans K7⟩
              clear C A7 K7 K6
              go_wp2_with fail
              refine ⟨⟨a', mid, L', _, ap, _, rfl, rfl, rfl, rfl, rfl, by omega, by omega, by omega, by omega, by have := hln.out; omega, (congrArg (fun x => pdB _ a' mid L' x ap) ?_).trans HE2.out, R2.out.1, R2.out.2⟩, by simp [intOf]; omega⟩
              have := hrt.out; have := hth.out; have := hln.out
              first | (rw [decide_eq_decide]; omega) | (simp; omega)
theorem pdqsort_any {w : World} {base g N cap : Nat} {d : Array Sn} (h : IsA w base g N cap d) (a b L : Nat) (hab : a ≤ b) (hb : b ≤ N) (hN : N ≤ 1000000) (hL : L ≤ 1000) :
    Calls Try.prog 46 #[.iface 59 (.agg #[.slice (some ⟨g, 0, none⟩) N cap]), .int .i64 (a : Int), .int .i64 (b : Int), .int .i64 (L : Int)] w fun e w' => e = .returned (.tuple #[]) ∧ IsA w' base g N cap (pdB d a b L true true) ∧ Kp [g] w w' :=
  pdqsort_n hN (b - a) h a b L hab hb (Nat.le_refl _) hL
#print axioms pdqsort_any
end Go.Proofs.Ytndlpjfofjikeaa
