/-
  The walk of readBytes.
-/
import Derived.Test.YtbjbnfhmehkkpaaRn
import Derived.Test.YtbjbnfhmehkkpaaWr
namespace Go.Proofs.Ytbjbnfhmehkkpaa
open Go.RowKit

/-- Digits, two a byte; none: they are not such. -/
def rbL : List Int → Option (List Int)
  | [] => some []
  | [_] => none
  | a :: b :: l => if 0 ≤ valZ a ∧ 0 ≤ valZ b then (rbL l).map ((16 * valZ a + valZ b) :: ·) else none
/-- What readBytes reads. -/
def rdB (zs : List Int) : Option (List Int) := if zs.length ≤ 16 then rbL zs else none

theorem rbL_snoc2 : ∀ (l : List Int) (a b : Int) (bs : List Int), rbL l = some bs → rbL (l ++ [a, b]) = if 0 ≤ valZ a ∧ 0 ≤ valZ b then some (bs ++ [16 * valZ a + valZ b]) else none
  | [], a, b, bs, h => by simp [rbL] at h; subst h; simp [rbL]
  | [_], _, _, _, h => by simp [rbL] at h
  | x :: y :: l, a, b, bs, h => by
    simp only [rbL] at h
    by_cases hx : 0 ≤ valZ x ∧ 0 ≤ valZ y
    · rw [if_pos hx] at h
      cases hl : rbL l with
      | none => rw [hl] at h; simp at h
      | some cs =>
        rw [hl] at h
        simp at h
        subst h
        simp only [List.cons_append, rbL, if_pos hx, rbL_snoc2 l a b cs hl]
        split <;> simp
    · rw [if_neg hx] at h; cases h
theorem rbL_none : ∀ (l : List Int) (a b : Int) (m : List Int), rbL l ≠ none → ¬ (0 ≤ valZ a ∧ 0 ≤ valZ b) → rbL (l ++ a :: b :: m) = none
  | [], a, b, m, _, h => by simp [rbL, h]
  | [_], _, _, _, h, _ => by simp [rbL] at h
  | x :: y :: l, a, b, m, h, h' => by
    simp only [rbL] at h
    by_cases hx : 0 ≤ valZ x ∧ 0 ≤ valZ y
    · rw [if_pos hx] at h
      simp only [List.cons_append, rbL, if_pos hx]
      rw [rbL_none l a b m (by intro e; rw [e] at h; simp at h) h']
      rfl
    · rw [if_neg hx] at h; exact absurd rfl h
theorem rbL_odd : ∀ (l : List Int), l.length % 2 = 1 → rbL l = none
  | [], h => by simp at h
  | [_], _ => rfl
  | x :: y :: l, h => by
    simp only [rbL]
    rw [rbL_odd l (by simp at h; omega)]
    simp
theorem rbL_length : ∀ (l bs : List Int), rbL l = some bs → 2 * bs.length = l.length
  | [], bs, h => by simp [rbL] at h; subst h; rfl
  | [_], _, h => by simp [rbL] at h
  | x :: y :: l, bs, h => by
    simp only [rbL] at h
    by_cases hx : 0 ≤ valZ x ∧ 0 ≤ valZ y
    · rw [if_pos hx] at h
      cases hl : rbL l with
      | none => rw [hl] at h; simp at h
      | some cs =>
        rw [hl] at h
        simp at h
        subst h
        have := rbL_length l cs hl
        simp
        omega
    · rw [if_neg hx] at h; cases h
theorem rbL_oct : ∀ (l bs : List Int), rbL l = some bs → Oct bs
  | [], bs, h => by simp [rbL] at h; subst h; exact oct_nil
  | [_], _, h => by simp [rbL] at h
  | x :: y :: l, bs, h => by
    simp only [rbL] at h
    by_cases hx : 0 ≤ valZ x ∧ 0 ≤ valZ y
    · rw [if_pos hx] at h
      cases hl : rbL l with
      | none => rw [hl] at h; simp at h
      | some cs =>
        rw [hl] at h
        simp at h
        subst h
        have h1 := valZ_bd x
        have h2 := valZ_bd y
        intro n hn
        rcases List.mem_cons.1 hn with rfl | hn
        · omega
        · exact rbL_oct l cs hl n hn
    · rw [if_neg hx] at h; cases h

theorem drop_two (zs : List Int) (k : Nat) (h : 2 * k + 1 < zs.length) : zs.drop (2 * k) = zb zs (2 * k) :: zb zs (2 * k + 1) :: zs.drop (2 * (k + 1)) := by
  rw [List.drop_eq_getElem_cons (by omega), List.drop_eq_getElem_cons (by omega)]
  simp [zb, List.getD_eq_getElem?_getD, h, show 2 * k < zs.length by omega, show 2 * (k + 1) = 2 * k + 1 + 1 by omega]
theorem take_two (zs : List Int) (k : Nat) (h : 2 * k + 1 < zs.length) : zs.take (2 * (k + 1)) = zs.take (2 * k) ++ [zb zs (2 * k), zb zs (2 * k + 1)] := by
  rw [show 2 * (k + 1) = 2 * k + 1 + 1 by omega, take_zb0 zs _ h, take_zb0 zs _ (by omega)]
  simp

/-- A text is cut as its numbers are. -/
theorem str_extract (zs : List Int) (a b : Nat) : (strOfNums zs).extract a b = strOfNums ((zs.take b).drop a) := by
  apply ByteArray.ext
  simp [strOfNums, ByteArray.data_extract, List.map_drop, List.map_take, List.drop_take]

set_option maxHeartbeats 4000000 in
set_option maxRecDepth 100000 in
theorem readBytes_any (zs : List Int) (w : World) (ho : Oct zs) (hz : zs.length ≤ 1000000) :
    Calls Try.prog 33 #[.string (strOfNums zs)] w fun e w' =>
      (∃ bs a cap, rdB zs = some bs ∧ e = .returned (.tuple #[.slice a bs.length cap, .bool true]) ∧ Row w' a bs.length bs ∧ Below w.heap.size w w') ∨ (rdB zs = none ∧ e = .returned (.tuple #[.slice none 0 0, .bool false]) ∧ Below w.heap.size w w') := by
  have hsz : (strOfNums zs).size = zs.length := strOfNums_size zs
  by_cases h2 : zs.length % 2 = 1
  · have R : Hid (rdB zs = none) := by show _ = _; unfold rdB; rw [rbL_odd zs h2]; simp
    have hm : ((zs.length : Int) % 2) = 1 := by omega
    generalize strOfNums zs = s at *
    go_enter Try.func33, Try.ntmps33
    go_wp2_with fail
    go_ret2
    exact .inr ⟨R.out, rfl, Below.refl _ _⟩
  have hm : ((zs.length : Int) % 2) = 0 := by omega
  by_cases h16 : (16 : Int) < (zs.length : Int)
  · have R : Hid (rdB zs = none) := by show _ = _; unfold rdB; rw [if_neg (by omega)]
    generalize strOfNums zs = s at *
    go_enter Try.func33, Try.ntmps33
    go_wp2_with fail
    go_ret2
    exact .inr ⟨R.out, rfl, Below.refl _ _⟩
  have R : Hid (rdB zs = rbL zs) := by show _ = _; unfold rdB; rw [if_pos (by omega)]
  obtain ⟨i0, hi, hz0, hz1, hz2⟩ := info_parts info8
  obtain ⟨s, HS⟩ : ∃ s, Hid (strOfNums zs = s) := ⟨_, rfl⟩
  have H0 : Hid (strOfNums (zs.drop (2 * 0)) = s) := by show _ = _; simp [HS.out]
  rw [HS.out] at hsz ⊢
  go_enter Try.func33, Try.ntmps33
  go_wp2_with fail
  go_loopw [0, 4] (fun t v wr => ∃ (k : Nat) (bs : List Int), 2 * k ≤ zs.length ∧ t = .string (strOfNums (zs.drop (2 * k))) ∧ rbL (zs.take (2 * k)) = some bs ∧ bs.length = k ∧ Below w.heap.size w wr ∧ wr.ownsRow w.heap.size 5 1 v k (bs.map (Value.int .u8)))
    (fun t _ _ => match t with | .string x => x.size | _ => 0)
  case atStart => exact ⟨0, [], by omega, by rw [H0.out], rfl, rfl, Below.refl _ _, World.ownsRow_nil _ _ _ _⟩
  case round =>
    obtain ⟨k, bs, hk, rfl, hrb, hbl, hb, hown⟩ := hrel
    have hts : (strOfNums (zs.drop (2 * k))).size = zs.length - 2 * k := by rw [strOfNums_size, List.length_drop]
    have hrs : (strOfNums (zs.drop (2 * (k + 1)))).size = zs.length - 2 * (k + 1) := by rw [strOfNums_size, List.length_drop]
    have hemp : (strOfNums (zs.drop (2 * k))).toList.isEmpty = decide (2 * k = zs.length) := by
      rw [Lib.toList_data, Bool.eq_iff_iff, List.isEmpty_iff, decide_eq_true_iff, ← List.length_eq_zero_iff]
      simp [strOfNums]
      omega
    by_cases hlt : 2 * k < zs.length
    · have h1 : 2 * k + 1 < zs.length := by omega
      have he : (strOfNums (zs.drop (2 * k))).toList.isEmpty = false := by rw [hemp]; simp; omega
      have HC : Hid ((strOfNums (zs.drop (2 * k))).extract 0 2 = strOfNums [zb zs (2 * k), zb zs (2 * k + 1)]) := by
        show _ = _
        rw [str_extract, drop_two zs k h1]
        rfl
      have HR : Hid ((strOfNums (zs.drop (2 * k))).extract 2 (strOfNums (zs.drop (2 * k))).size = strOfNums (zs.drop (2 * (k + 1)))) := by
        show _ = _
        rw [str_extract, hts, List.take_of_length_le (by simp), List.drop_drop]
        congr 2
      have hge : (2 : Int) ≤ ((strOfNums (zs.drop (2 * k))).size : Int) := by omega
      have hoa : 0 ≤ zb zs (2 * k) ∧ zb zs (2 * k) < 256 := ho.getD _
      have hob : 0 ≤ zb zs (2 * k + 1) ∧ zb zs (2 * k + 1) < 256 := ho.getD _
      have hnum := fun w => number_any [zb zs (2 * k), zb zs (2 * k + 1)] 2 w (fun n hn => by simp at hn; omega) (by decide)
      have va := valZ_bd (zb zs (2 * k))
      have vb := valZ_bd (zb zs (2 * k + 1))
      have SN : Hid (rbL (zs.take (2 * (k + 1))) = if 0 ≤ valZ (zb zs (2 * k)) ∧ 0 ≤ valZ (zb zs (2 * k + 1)) then some (bs ++ [16 * valZ (zb zs (2 * k)) + valZ (zb zs (2 * k + 1))]) else none) := by
        show _ = _
        rw [take_two zs k h1]
        exact rbL_snoc2 _ _ _ bs hrb
      have NN : Hid (¬ (0 ≤ valZ (zb zs (2 * k)) ∧ 0 ≤ valZ (zb zs (2 * k + 1))) → rdB zs = none) := fun h => by
        rw [R.out, ← List.take_append_drop (2 * k) zs, drop_two zs k h1]
        exact rbL_none _ _ _ _ (by rw [hrb]; simp) h
      have HM : Hid ((strOfNums (zs.drop (2 * (k + 1)))).size < (strOfNums (zs.drop (2 * k))).size) := by show _ < _; omega
      clear hts hrs hemp hrb
      by_cases hv : 0 ≤ valZ (zb zs (2 * k)) ∧ 0 ≤ valZ (zb zs (2 * k + 1))
      · rw [show nuB [zb zs (2 * k), zb zs (2 * k + 1)] 2 = true from by simp [nuB, hv], show nuV [zb zs (2 * k), zb zs (2 * k + 1)] 2 = 16 * valZ (zb zs (2 * k)) + valZ (zb zs (2 * k + 1)) from by simp [nuV, nuB, hv, numV]] at hnum
        have SN' : Hid (rbL (zs.take (2 * (k + 1))) = some (bs ++ [16 * valZ (zb zs (2 * k)) + valZ (zb zs (2 * k + 1))])) := by show _ = _; rw [SN.out, if_pos hv]
        have hq0 : 0 ≤ 16 * valZ (zb zs (2 * k)) + valZ (zb zs (2 * k + 1)) := by omega
        have hq1 : 16 * valZ (zb zs (2 * k)) + valZ (zb zs (2 * k + 1)) < 256 := by omega
        clear SN NN hv va vb hoa hob
        rw [← HC.out] at hnum
        clear HC
        generalize 16 * valZ (zb zs (2 * k)) + valZ (zb zs (2 * k + 1)) = q at *
        generalize strOfNums (zs.drop (2 * k)) = t at *
        have OWN : Hid (wr.ownsRow w.heap.size 5 1 u4 k (bs.map (Value.int .u8))) := hown
        clear hown
        go_wp2_with fail
        refine (hnum _).mono ?_
        rintro e wr ⟨rfl, rfl⟩
        clear hnum
        go_wp2_with (at_builtin; refine wpList_append_own _ rfl _ _ 23 rfl w.heap.size 5 i0 (.int .u8 0) 1 1 Try.underlying23 hi hz0 hz1 hz2 rfl (by decide) _ _ _ rfl (OWN.out.alloc _) ⟨wr.heap.size, 0, none⟩ 1 1 [.int .u8 q] rfl rfl ?c1 ?c2 ?c3 ?c4 ?c5 ?_)
        case c1 =>
          intro j u hj
          match j, hj with
          | 0, hj => simp at hj; subst hj; simp [Addr.add]
        case c2 => intro u hu; simp at hu; subst hu; rfl
        case c3 => unfold maxLen; omega
        case c4 => omega
        case c5 => have := hb.size; simp; omega
        intro v' w2 hown' hgrow _
        go_wp2_with fail
        rw [HR.out]
        refine ⟨⟨k + 1, bs ++ [q], by omega, ?_, SN'.out, by simp [hbl], (Below.al hb _).grown hgrow (by have := hb.size; simp; omega) (fun j hj => (OWN.out.lt j hj).1), ?_⟩, HM.out⟩
        · rfl
        · rw [List.map_append]
          exact hown'
      · rw [show nuB [zb zs (2 * k), zb zs (2 * k + 1)] 2 = false from by simp [nuB]; omega, show nuV [zb zs (2 * k), zb zs (2 * k + 1)] 2 = 0 from by simp [nuV, nuB]; omega] at hnum
        have N' : Hid (rdB zs = none) := NN.out hv
        clear SN NN hv va vb hoa hob
        rw [← HC.out] at hnum
        clear HC HR HM
        generalize strOfNums (zs.drop (2 * k)) = t at *
        go_wp2_with fail
        refine (hnum _).mono ?_
        rintro e wr ⟨rfl, rfl⟩
        go_wp2_with fail
        go_ret2
        exact .inr ⟨N'.out, rfl, hb⟩
    · have he : (strOfNums (zs.drop (2 * k))).toList.isEmpty = true := by rw [hemp]; simp; omega
      have hfin : rdB zs = some bs := by rw [R.out, ← hrb, List.take_of_length_le (by omega)]
      obtain ⟨a, cap, rfl, c1, c2, r⟩ := own_row hown rfl (rbL_oct _ _ hrb) hbl
      clear hown hts hrs hemp hrb
      generalize strOfNums (zs.drop (2 * k)) = t at *
      have HF : Hid (rdB zs = some bs) := hfin
      clear hfin
      go_wp2_with fail
      go_ret2
      subst hbl
      exact .inl ⟨bs, _, _, HF.out, rfl, r, hb⟩
#print axioms readBytes_any
end Go.Proofs.Ytbjbnfhmehkkpaa
