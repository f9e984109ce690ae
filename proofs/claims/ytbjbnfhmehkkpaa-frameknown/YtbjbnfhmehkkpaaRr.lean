/-
  The walk of the document's Read.
-/
import Derived.Test.YtbjbnfhmehkkpaaMa
import Derived.Test.YtbjbnfhmehkkpaaRg
namespace Go.Proofs.Ytbjbnfhmehkkpaa
open Go.RowKit

/-- A digit's number, or 0. -/
def vz (c : Int) : Int := if 0 ≤ valZ c then valZ c else 0
theorem vz_bd (c : Int) : 0 ≤ vz c ∧ vz c < 16 := by
  have := valZ_bd c
  unfold vz
  split <;> omega
theorem vz_of (c : Int) (h : 0 ≤ valZ c) : vz c = valZ c := if_pos h
theorem max_vz (c : Int) : max 0 (valZ c) = vz c := by
  unfold vz
  split <;> omega

/-- What the document's Read makes of a text ahead of holding it against what is written. -/
def rrI (zs : List Int) : Int := 256 * vz (zb zs 0) + 16 * vz (zb zs 1) + vz (zb zs 2)
/-- The byte that two digits make. -/
def rrB (zs : List Int) (k : Nat) : Int := 16 * vz (zb zs (4 + 2 * k)) + vz (zb zs (5 + 2 * k))
/-- So many of them. -/
def rrD (zs : List Int) (m : Nat) : List Int := (List.range m).map (rrB zs)
/-- The frame. -/
def rrF (zs : List Int) : FrR := if zs.length = 6 ∧ zb zs 4 = 82 then ⟨rrI zs, vz (zb zs 5), 0, 0, 0, 0, 0, 0, 0, 0, true, 0⟩
  else ⟨rrI zs, ((zs.length - 4) / 2 : Nat), zb (rrD zs ((zs.length - 4) / 2)) 0, zb (rrD zs ((zs.length - 4) / 2)) 1, zb (rrD zs ((zs.length - 4) / 2)) 2, zb (rrD zs ((zs.length - 4) / 2)) 3, zb (rrD zs ((zs.length - 4) / 2)) 4, zb (rrD zs ((zs.length - 4) / 2)) 5, zb (rrD zs ((zs.length - 4) / 2)) 6, zb (rrD zs ((zs.length - 4) / 2)) 7, false, 0⟩

theorem hexL_at : ∀ (l : List Int) (k : Nat), k < l.length → zb (hexL l) (2 * k) = digZ (zb l k / 16) ∧ zb (hexL l) (2 * k + 1) = digZ (zb l k % 16)
  | [], k, h => by simp at h
  | z :: l, 0, _ => ⟨rfl, rfl⟩
  | z :: l, k + 1, h => by
    have ih := hexL_at l k (by simpa using h)
    rw [show 2 * (k + 1) = 2 * k + 1 + 1 by omega]
    exact ih
theorem zb_head (id : Int) (t : List Int) (j : Nat) : zb (headL id ++ t) (4 + j) = zb t j := by
  rw [Nat.add_comm]
  rfl

/-- What the document's Read makes of what is written is the frame. -/
theorem rrF_wr (id n d0 d1 d2 d3 d4 d5 d6 d7 : Int) (r : Bool) (h0 : 0 ≤ id) (ho : Oct [d0, d1, d2, d3, d4, d5, d6, d7]) (h : rightB id n [d0, d1, d2, d3, d4, d5, d6, d7] r = true) : rrF (wrL id n [d0, d1, d2, d3, d4, d5, d6, d7] r) = ⟨id, n, d0, d1, d2, d3, d4, d5, d6, d7, r, 0⟩ := by
  obtain ⟨hid, hn0, hn8⟩ := rightB_n _ _ _ _ h
  have z := rightB_zb id n [d0, d1, d2, d3, d4, d5, d6, d7] r h
  have va := valZ_digZ (id / 256) (by omega) (by omega)
  have vb := valZ_digZ (id / 16 % 16) (by omega) (by omega)
  have vc := valZ_digZ (id % 16) (by omega) (by omega)
  have hI : ∀ t, rrI (headL id ++ t) = id := fun t => by
    show 256 * vz (digZ (id / 256)) + 16 * vz (digZ (id / 16 % 16)) + vz (digZ (id % 16)) = id
    rw [vz_of _ (by omega), vz_of _ (by omega), vz_of _ (by omega), va, vb, vc]
    omega
  cases r with
  | true =>
    have e : wrL id n [d0, d1, d2, d3, d4, d5, d6, d7] true = headL id ++ [82, digZ n] := by simp [wrL]
    rw [e]
    unfold rrF
    rw [if_pos ⟨rfl, rfl⟩, hI]
    have vn := valZ_digZ n hn0 (by omega)
    have y : ∀ i, i < 8 → zb [d0, d1, d2, d3, d4, d5, d6, d7] i = 0 := fun i hi => by rw [z i hi]; simp [carL, zb]
    have y0 : d0 = 0 := y 0 (by decide)
    have y1 : d1 = 0 := y 1 (by decide)
    have y2 : d2 = 0 := y 2 (by decide)
    have y3 : d3 = 0 := y 3 (by decide)
    have y4 : d4 = 0 := y 4 (by decide)
    have y5 : d5 = 0 := y 5 (by decide)
    have y6 : d6 = 0 := y 6 (by decide)
    have y7 : d7 = 0 := y 7 (by decide)
    rw [y0, y1, y2, y3, y4, y5, y6, y7, show zb (headL id ++ [82, digZ n]) 5 = digZ n from rfl, vz_of _ (by omega), vn]
  | false =>
    obtain ⟨m, rfl⟩ := Int.eq_ofNat_of_zero_le hn0
    have e : carL (m : Int) [d0, d1, d2, d3, d4, d5, d6, d7] false = List.take m [d0, d1, d2, d3, d4, d5, d6, d7] := by simp [carL]
    rw [e] at z
    have hl : (List.take m [d0, d1, d2, d3, d4, d5, d6, d7]).length = m := by simp; omega
    have ot : Oct (List.take m [d0, d1, d2, d3, d4, d5, d6, d7]) := ho.take m
    have e2 : wrL id m [d0, d1, d2, d3, d4, d5, d6, d7] false = headL id ++ hexL (List.take m [d0, d1, d2, d3, d4, d5, d6, d7]) := by simp [wrL]
    rw [e2]
    have y0 : d0 = zb (List.take m [d0, d1, d2, d3, d4, d5, d6, d7]) 0 := z 0 (by decide)
    have y1 : d1 = zb (List.take m [d0, d1, d2, d3, d4, d5, d6, d7]) 1 := z 1 (by decide)
    have y2 : d2 = zb (List.take m [d0, d1, d2, d3, d4, d5, d6, d7]) 2 := z 2 (by decide)
    have y3 : d3 = zb (List.take m [d0, d1, d2, d3, d4, d5, d6, d7]) 3 := z 3 (by decide)
    have y4 : d4 = zb (List.take m [d0, d1, d2, d3, d4, d5, d6, d7]) 4 := z 4 (by decide)
    have y5 : d5 = zb (List.take m [d0, d1, d2, d3, d4, d5, d6, d7]) 5 := z 5 (by decide)
    have y6 : d6 = zb (List.take m [d0, d1, d2, d3, d4, d5, d6, d7]) 6 := z 6 (by decide)
    have y7 : d7 = zb (List.take m [d0, d1, d2, d3, d4, d5, d6, d7]) 7 := z 7 (by decide)
    generalize List.take m [d0, d1, d2, d3, d4, d5, d6, d7] = l at *
    have hL : (headL id ++ hexL l).length = 4 + 2 * m := by simp [headL, hexL_length, hl]; omega
    have hD : rrD (headL id ++ hexL l) m = l := by
      apply List.ext_getElem
      · simp [rrD, hl]
      · intro k h1 h2
        have hk : k < l.length := by simpa [hl] using h2
        obtain ⟨x1, x2⟩ := hexL_at l k hk
        have hz := ot l[k] (List.getElem_mem hk)
        have ez : zb l k = l[k] := by simp [zb, List.getD_eq_getElem?_getD, hk]
        have w1 := valZ_digZ (l[k] / 16) (by omega) (by omega)
        have w2 := valZ_digZ (l[k] % 16) (by omega) (by omega)
        simp only [rrD, List.getElem_map, List.getElem_range, rrB]
        rw [zb_head id _ (2 * k), show 5 + 2 * k = 4 + (2 * k + 1) by omega, zb_head id _ (2 * k + 1), x1, x2, ez, vz_of _ (by omega), vz_of _ (by omega), w1, w2]
        omega
    have hnot : ¬ ((headL id ++ hexL l).length = 6 ∧ zb (headL id ++ hexL l) 4 = 82) := by
      rintro ⟨e1, e2⟩
      have : zb (headL id ++ hexL l) 4 = zb (hexL l) 0 := zb_head id _ 0
      rw [this] at e2
      have hk : 0 < l.length := by omega
      have x := (hexL_at l 0 hk).1
      rw [Nat.mul_zero, e2] at x
      have hz : 0 ≤ zb l 0 ∧ zb l 0 < 256 := ot.getD 0
      have := (digZ_bd (zb l 0 / 16) (by omega) (by omega)).2.2
      omega
    unfold rrF
    rw [if_neg hnot, hI, hL, show (4 + 2 * m - 4) / 2 = m by omega, hD, ← y0, ← y1, ← y2, ← y3, ← y4, ← y5, ← y6, ← y7]
#print axioms rrF_wr

/-- What the document's Read tells. -/
def rrR (zs : List Int) : FrR := if 4 ≤ zs.length ∧ zs.length ≤ 20 ∧ rightB (rrF zs).i (rrF zs).n (rrF zs).ds (rrF zs).r = true ∧ wrL (rrF zs).i (rrF zs).n (rrF zs).ds (rrF zs).r = zs then rrF zs else noFr 30

theorem wrL_len (id n : Int) (ds : List Int) (r : Bool) (h : rightB id n ds r = true) (hd : ds.length = 8) : 4 ≤ (wrL id n ds r).length ∧ (wrL id n ds r).length ≤ 20 := by
  obtain ⟨_, h0, h8⟩ := rightB_n _ _ _ _ h
  cases r
  · simp [wrL, headL, hexL_length, hd]; omega
  · simp [wrL, headL]
theorem rdR_err (zs : List Int) (h : (rdR zs).c ≠ 0) : rdR zs = noFr 30 := by
  unfold rdR at h ⊢
  cases hq : cutAt 35 zs with
  | none => rfl
  | some p =>
    rw [hq] at h
    dsimp only at h ⊢
    by_cases hb : nuB p.1 3 = true
    · rw [if_pos hb] at h ⊢
      by_cases ht : (tailR (nuV p.1 3) p.2).c = 0
      · rw [if_pos ht] at h; exact absurd ht h
      · rw [if_neg ht]
    · rw [if_neg hb]

theorem rrF_ok (zs : List Int) : 0 ≤ (rrF zs).i ∧ (rrF zs).i < 4096 ∧ Oct (rrF zs).ds := by
  have h0 := vz_bd (zb zs 0)
  have h1 := vz_bd (zb zs 1)
  have h2 := vz_bd (zb zs 2)
  have hI : 0 ≤ rrI zs ∧ rrI zs < 4096 := by unfold rrI; omega
  have hoD : Oct (rrD zs ((zs.length - 4) / 2)) := by
    intro x hx
    simp only [rrD, List.mem_map] at hx
    obtain ⟨k, _, rfl⟩ := hx
    have a := vz_bd (zb zs (4 + 2 * k))
    have b := vz_bd (zb zs (5 + 2 * k))
    unfold rrB
    omega
  unfold rrF
  split
  · exact ⟨hI.1, hI.2, fun x hx => by simp [FrR.ds] at hx; omega⟩
  · exact ⟨hI.1, hI.2, oct_eight _ hoD⟩

/-- The two Reads tell the same. -/
theorem rdR_rrR (zs : List Int) : rdR zs = rrR zs := by
  unfold rrR
  by_cases hc : (rdR zs).c = 0
  · obtain ⟨id, n, d0, d1, d2, d3, d4, d5, d6, d7, r, e, h0, hod, hr, hw⟩ := wr_rd zs hc
    have hl := wrL_len id n [d0, d1, d2, d3, d4, d5, d6, d7] r hr rfl
    rw [hw] at hl
    have e2 := rrF_wr id n d0 d1 d2 d3 d4 d5 d6 d7 r h0 hod hr
    rw [hw] at e2
    rw [e2, if_pos ⟨hl.1, hl.2, hr, hw⟩]
    exact e
  · rw [rdR_err zs hc]
    split
    · rename_i h
      obtain ⟨_, _, h1, h2⟩ := h
      obtain ⟨o1, _, o2⟩ := rrF_ok zs
      have := rd_wr _ _ _ _ _ _ _ _ _ _ _ o1 o2 h1
      rw [show wrL (rrF zs).i (rrF zs).n [(rrF zs).d0, (rrF zs).d1, (rrF zs).d2, (rrF zs).d3, (rrF zs).d4, (rrF zs).d5, (rrF zs).d6, (rrF zs).d7] (rrF zs).r = zs from h2] at this
      rw [this] at hc
      exact absurd rfl hc
    · rfl
#print axioms rdR_rrR
end Go.Proofs.Ytbjbnfhmehkkpaa
