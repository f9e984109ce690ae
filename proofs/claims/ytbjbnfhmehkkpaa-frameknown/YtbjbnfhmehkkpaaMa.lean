/-
  Frames and texts, there and back: of no walk.
-/
import Derived.Test.YtbjbnfhmehkkpaaRe
import Derived.Test.YtbjbnfhmehkkpaaWf
namespace Go.Proofs.Ytbjbnfhmehkkpaa
open Go.RowKit

theorem oct_of0 : Oct [0, 0, 0, 0, 0, 0, 0, 0] := by intro n hn; simp at hn; omega

theorem cutAt_head (a b c : Int) (t : List Int) (ha : a ≠ 35) (hb : b ≠ 35) (hc : c ≠ 35) : cutAt 35 (a :: b :: c :: 35 :: t) = some ([a, b, c], t) := by
  simp [cutAt, ha, hb, hc]

theorem nu3 (a b c : Int) (ha : 0 ≤ valZ a) (hb : 0 ≤ valZ b) (hc : 0 ≤ valZ c) : nuB [a, b, c] 3 = true ∧ nuV [a, b, c] 3 = 16 * (16 * valZ a + valZ b) + valZ c := by
  have h : nuB [a, b, c] 3 = true := by simp [nuB, ha, hb, hc]
  exact ⟨h, by simp [nuV, h, numV]⟩
theorem nu1 (a : Int) (ha : 0 ≤ valZ a) : nuB [a] 1 = true ∧ nuV [a] 1 = valZ a := by
  have h : nuB [a] 1 = true := by simp [nuB, ha]
  exact ⟨h, by simp [nuV, h, numV]⟩

theorem rbL_hexL : ∀ l : List Int, Oct l → rbL (hexL l) = some l
  | [], _ => rfl
  | z :: l, h => by
    have hz := h z (by simp)
    have e1 := valZ_digZ (z / 16) (by omega) (by omega)
    have e2 := valZ_digZ (z % 16) (by omega) (by omega)
    simp only [hexL, rbL, e1, e2]
    rw [if_pos (by omega), rbL_hexL l (fun n hn => h n (by simp [hn]))]
    simp
    omega
theorem hexL_rbL : ∀ (t bs : List Int), rbL t = some bs → hexL bs = t
  | [], bs, h => by simp [rbL] at h; subst h; rfl
  | [_], _, h => by simp [rbL] at h
  | x :: y :: t, bs, h => by
    simp only [rbL] at h
    by_cases hx : 0 ≤ valZ x ∧ 0 ≤ valZ y
    · rw [if_pos hx] at h
      cases hl : rbL t with
      | none => rw [hl] at h; simp at h
      | some cs =>
        rw [hl] at h
        simp at h
        subst h
        have h1 := valZ_bd x
        have h2 := valZ_bd y
        have e1 : (16 * valZ x + valZ y) / 16 = valZ x := by omega
        have e2 : (16 * valZ x + valZ y) % 16 = valZ y := by omega
        simp only [hexL, e1, e2, digZ_valZ x hx.1, digZ_valZ y hx.2, hexL_rbL t cs hl]
    · rw [if_neg hx] at h; cases h
theorem hexL_head (l : List Int) (h : Oct l) : (hexL l).head? ≠ some 82 := by
  cases l with
  | nil => simp [hexL]
  | cons z l =>
    have hz := h z (by simp)
    have := (digZ_bd (z / 16) (by omega) (by omega)).2.2
    simpa [hexL] using this

theorem rightB_zb (id n : Int) (ds : List Int) (r : Bool) (h : rightB id n ds r = true) (i : Nat) (hi : i < 8) : zb ds i = zb (carL n ds r) i := by
  simp only [rightB, Bool.and_eq_true, range8] at h
  have := h.2.2.2 i hi
  simpa using this

/-- A right frame that is written is read as itself. -/
theorem rd_wr (id n d0 d1 d2 d3 d4 d5 d6 d7 : Int) (r : Bool) (h0 : 0 ≤ id) (ho : Oct [d0, d1, d2, d3, d4, d5, d6, d7]) (h : rightB id n [d0, d1, d2, d3, d4, d5, d6, d7] r = true) : rdR (wrL id n [d0, d1, d2, d3, d4, d5, d6, d7] r) = ⟨id, n, d0, d1, d2, d3, d4, d5, d6, d7, r, 0⟩ := by
  obtain ⟨hid, hn0, hn8⟩ := rightB_n _ _ _ _ h
  have z := rightB_zb id n [d0, d1, d2, d3, d4, d5, d6, d7] r h
  have a := digZ_bd (id / 256) (by omega) (by omega)
  have b := digZ_bd (id / 16 % 16) (by omega) (by omega)
  have c := digZ_bd (id % 16) (by omega) (by omega)
  have va := valZ_digZ (id / 256) (by omega) (by omega)
  have vb := valZ_digZ (id / 16 % 16) (by omega) (by omega)
  have vc := valZ_digZ (id % 16) (by omega) (by omega)
  obtain ⟨q1, q2⟩ := nu3 (digZ (id / 256)) (digZ (id / 16 % 16)) (digZ (id % 16)) (by omega) (by omega) (by omega)
  rw [va, vb, vc, show 16 * (16 * (id / 256) + id / 16 % 16) + id % 16 = id by omega] at q2
  unfold rdR
  cases r with
  | true =>
    simp only [wrL, headL, if_true, List.cons_append, List.nil_append]
    rw [cutAt_head _ _ _ _ (by omega) (by omega) (by omega)]
    have vn := valZ_digZ n hn0 (by omega)
    obtain ⟨p1, p2⟩ := nu1 (digZ n) (by omega)
    rw [vn] at p2
    simp only [q1, q2, if_true, tailR_R, p1, p2, askR_good id n hid hn0 hn8]
    have y : ∀ i, i < 8 → zb [d0, d1, d2, d3, d4, d5, d6, d7] i = 0 := fun i hi => by rw [z i hi]; simp [carL, zb]
    have y0 : d0 = 0 := y 0 (by decide)
    have y1 : d1 = 0 := y 1 (by decide)
    have y2 : d2 = 0 := y 2 (by decide)
    have y3 : d3 = 0 := y 3 (by decide)
    have y4 : d4 = 0 := y 4 (by decide)
    have y5 : d5 = 0 := y 5 (by decide)
    have y6 : d6 = 0 := y 6 (by decide)
    have y7 : d7 = 0 := y 7 (by decide)
    rw [y0, y1, y2, y3, y4, y5, y6, y7]
  | false =>
    obtain ⟨m, rfl⟩ := Int.eq_ofNat_of_zero_le hn0
    simp only [wrL, headL, Bool.false_eq_true, if_false, List.cons_append, List.nil_append]
    rw [cutAt_head _ _ _ _ (by omega) (by omega) (by omega)]
    have e : carL (m : Int) [d0, d1, d2, d3, d4, d5, d6, d7] false = List.take m [d0, d1, d2, d3, d4, d5, d6, d7] := by simp [carL]
    rw [e] at z
    have hl : (List.take m [d0, d1, d2, d3, d4, d5, d6, d7]).length = m := by simp; omega
    have ot : Oct (List.take m [d0, d1, d2, d3, d4, d5, d6, d7]) := ho.take m
    simp only [Int.toNat_natCast]
    have y0 : d0 = zb (List.take m [d0, d1, d2, d3, d4, d5, d6, d7]) 0 := z 0 (by decide)
    have y1 : d1 = zb (List.take m [d0, d1, d2, d3, d4, d5, d6, d7]) 1 := z 1 (by decide)
    have y2 : d2 = zb (List.take m [d0, d1, d2, d3, d4, d5, d6, d7]) 2 := z 2 (by decide)
    have y3 : d3 = zb (List.take m [d0, d1, d2, d3, d4, d5, d6, d7]) 3 := z 3 (by decide)
    have y4 : d4 = zb (List.take m [d0, d1, d2, d3, d4, d5, d6, d7]) 4 := z 4 (by decide)
    have y5 : d5 = zb (List.take m [d0, d1, d2, d3, d4, d5, d6, d7]) 5 := z 5 (by decide)
    have y6 : d6 = zb (List.take m [d0, d1, d2, d3, d4, d5, d6, d7]) 6 := z 6 (by decide)
    have y7 : d7 = zb (List.take m [d0, d1, d2, d3, d4, d5, d6, d7]) 7 := z 7 (by decide)
    generalize List.take m [d0, d1, d2, d3, d4, d5, d6, d7] = l at *
    have hb : rdB (hexL l) = some l := by
      unfold rdB
      rw [if_pos (by rw [hexL_length]; omega), rbL_hexL l ot]
    simp only [q1, q2, if_true, tailR_some id _ l (hexL_head l ot) hb, mkR_good id l hid (by omega)]
    rw [← y0, ← y1, ← y2, ← y3, ← y4, ← y5, ← y6, ← y7, hl]

theorem nuB3 (l : List Int) (h : nuB l 3 = true) : ∃ x y z, l = [x, y, z] ∧ 0 ≤ valZ x ∧ 0 ≤ valZ y ∧ 0 ≤ valZ z := by
  simp only [nuB, Bool.and_eq_true, decide_eq_true_eq] at h
  obtain ⟨h1, h2⟩ := h
  match l, h1 with
  | [x, y, z], _ => simp at h2; exact ⟨x, y, z, rfl, h2⟩
theorem nuB1 (l : List Int) (h : nuB l 1 = true) : ∃ x, l = [x] ∧ 0 ≤ valZ x := by
  simp only [nuB, Bool.and_eq_true, decide_eq_true_eq] at h
  obtain ⟨h1, h2⟩ := h
  match l, h1 with
  | [x], _ => simp at h2; exact ⟨x, rfl, h2⟩

theorem take_eight (bs : List Int) (h : bs.length ≤ 8) : List.take bs.length [zb bs 0, zb bs 1, zb bs 2, zb bs 3, zb bs 4, zb bs 5, zb bs 6, zb bs 7] = bs := by
  match bs, h with
  | [], _ => rfl
  | [_], _ => rfl
  | [_, _], _ => rfl
  | [_, _, _], _ => rfl
  | [_, _, _, _], _ => rfl
  | [_, _, _, _, _], _ => rfl
  | [_, _, _, _, _, _], _ => rfl
  | [_, _, _, _, _, _, _], _ => rfl
  | [_, _, _, _, _, _, _, _], _ => rfl
theorem zb_eight (bs : List Int) (i : Nat) (hi : i < 8) : zb [zb bs 0, zb bs 1, zb bs 2, zb bs 3, zb bs 4, zb bs 5, zb bs 6, zb bs 7] i = zb bs i := by
  have h9 : i = 0 ∨ i = 1 ∨ i = 2 ∨ i = 3 ∨ i = 4 ∨ i = 5 ∨ i = 6 ∨ i = 7 := by omega
  rcases h9 with rfl | rfl | rfl | rfl | rfl | rfl | rfl | rfl <;> rfl
theorem oct_eight (bs : List Int) (h : Oct bs) : Oct [zb bs 0, zb bs 1, zb bs 2, zb bs 3, zb bs 4, zb bs 5, zb bs 6, zb bs 7] := by
  intro n hn
  simp only [List.mem_cons, List.not_mem_nil, or_false] at hn
  rcases hn with rfl | rfl | rfl | rfl | rfl | rfl | rfl | rfl <;> exact h.getD _

theorem right_ask (id n : Int) (h1 : id ≤ 2047) (h2 : 0 ≤ n) (h3 : n ≤ 8) : rightB id n [0, 0, 0, 0, 0, 0, 0, 0] true = true := by
  simp only [rightB, Bool.and_eq_true, decide_eq_true_eq, range8]
  refine ⟨h1, h2, h3, fun i hi => ?_⟩
  have h9 : i = 0 ∨ i = 1 ∨ i = 2 ∨ i = 3 ∨ i = 4 ∨ i = 5 ∨ i = 6 ∨ i = 7 := by omega
  rcases h9 with rfl | rfl | rfl | rfl | rfl | rfl | rfl | rfl <;> rfl
theorem right_make (id : Int) (bs : List Int) (h1 : id ≤ 2047) (h : bs.length ≤ 8) : rightB id bs.length [zb bs 0, zb bs 1, zb bs 2, zb bs 3, zb bs 4, zb bs 5, zb bs 6, zb bs 7] false = true := by
  simp only [rightB, Bool.and_eq_true, decide_eq_true_eq, range8]
  refine ⟨h1, by omega, by omega, fun i hi => ?_⟩
  rw [zb_eight bs i hi]
  simp only [carL, Bool.false_eq_true, if_false, Int.toNat_natCast]
  rw [take_eight bs h]
  simp

/-- A text that is read is the one that is written. -/
theorem wr_rd (zs : List Int) (hc : (rdR zs).c = 0) : ∃ id n d0 d1 d2 d3 d4 d5 d6 d7 r, rdR zs = ⟨id, n, d0, d1, d2, d3, d4, d5, d6, d7, r, 0⟩ ∧ 0 ≤ id ∧ Oct [d0, d1, d2, d3, d4, d5, d6, d7] ∧ rightB id n [d0, d1, d2, d3, d4, d5, d6, d7] r = true ∧ wrL id n [d0, d1, d2, d3, d4, d5, d6, d7] r = zs := by
  unfold rdR at hc ⊢
  cases hq : cutAt 35 zs with
  | none => rw [hq] at hc; simp [noFr] at hc
  | some p =>
    rw [hq] at hc
    dsimp only at hc ⊢
    by_cases hb : nuB p.1 3 = true
    · rw [if_pos hb] at hc ⊢
      have hz := cutAt_eq 35 zs p hq
      obtain ⟨p1, t⟩ := p
      obtain ⟨x, y, z, rfl, hx, hy, hzz⟩ := nuB3 _ hb
      dsimp only at hc hz ⊢
      obtain ⟨_, q2⟩ := nu3 x y z hx hy hzz
      rw [q2] at hc ⊢
      have bx := valZ_bd x
      have by' := valZ_bd y
      have bz := valZ_bd z
      obtain ⟨id, hid⟩ : ∃ id, 16 * (16 * valZ x + valZ y) + valZ z = id := ⟨_, rfl⟩
      rw [hid] at hc ⊢
      have hh : headL id = [x, y, z, 35] := by
        unfold headL
        rw [show id / 256 = valZ x by omega, show id / 16 % 16 = valZ y by omega, show id % 16 = valZ z by omega, digZ_valZ x hx, digZ_valZ y hy, digZ_valZ z hzz]
      by_cases ht : (tailR id t).c = 0
      · rw [if_pos ht]
        clear hc
        by_cases hR : t.head? = some 82
        · obtain ⟨l, rfl⟩ : ∃ l, t = 82 :: l := by
            cases t with
            | nil => simp at hR
            | cons x l => simp at hR; exact ⟨l, by rw [hR]⟩
          rw [tailR_R] at ht ⊢
          by_cases h1 : nuB l 1 = true
          · rw [if_pos h1] at ht ⊢
            obtain ⟨u, rfl, hu⟩ := nuB1 l h1
            rw [(nu1 u hu).2] at ht ⊢
            by_cases hg : id ≤ 2047 ∧ 0 ≤ valZ u ∧ valZ u ≤ 8
            · rw [askR_good id _ hg.1 hg.2.1 hg.2.2]
              refine ⟨id, valZ u, 0, 0, 0, 0, 0, 0, 0, 0, true, rfl, by omega, oct_of0, right_ask id _ hg.1 hg.2.1 hg.2.2, ?_⟩
              simp only [wrL, hh, if_true, digZ_valZ u hu]
              rw [hz]
              rfl
            · rw [askR_bad id _ (by omega)] at ht; simp [noFr] at ht
          · rw [if_neg h1] at ht; simp [noFr] at ht
        · cases hbs : rdB t with
          | none => rw [tailR_none id t hR hbs] at ht; simp [noFr] at ht
          | some bs =>
            rw [tailR_some id t bs hR hbs] at ht ⊢
            have hrb : rbL t = some bs := by
              unfold rdB at hbs
              split at hbs
              · exact hbs
              · cases hbs
            by_cases hg : id ≤ 2047 ∧ bs.length ≤ 8
            · rw [mkR_good id bs hg.1 hg.2]
              refine ⟨id, bs.length, zb bs 0, zb bs 1, zb bs 2, zb bs 3, zb bs 4, zb bs 5, zb bs 6, zb bs 7, false, rfl, by omega, oct_eight bs (rbL_oct t bs hrb), right_make id bs hg.1 hg.2, ?_⟩
              simp only [wrL, hh, Bool.false_eq_true, if_false, Int.toNat_natCast]
              rw [take_eight bs hg.2, hexL_rbL t bs hrb, hz]
              rfl
            · rw [mkR_bad id bs (by omega)] at ht; simp [noFr] at ht
      · rw [if_neg ht] at hc; simp [noFr] at hc
    · rw [if_neg hb] at hc; simp [noFr] at hc
#print axioms rd_wr
#print axioms wr_rd
end Go.Proofs.Ytbjbnfhmehkkpaa
