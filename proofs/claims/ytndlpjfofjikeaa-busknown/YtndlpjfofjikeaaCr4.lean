/-
  Those of a node taken out of a row.
-/
import Derived.Test.YtndlpjfofjikeaaCq4
namespace Go.Proofs.Ytndlpjfofjikeaa
open Go.RowKit

theorem take_set (e : List Sn) (i : Nat) (x : Sn) (h : i < e.length) : (e.set i x).take (i + 1) = e.take i ++ [x] := by
  rw [List.set_eq_take_append_cons_drop, if_pos h, List.take_append, List.take_of_length_le (by rw [List.length_take]; omega), List.length_take, show i + 1 - min i e.length = 1 from by omega]
  rfl
theorem drop_set (e : List Sn) (i j : Nat) (x : Sn) (h : i < j) : (e.set i x).drop j = e.drop j := by
  rw [List.drop_set_of_lt h]
theorem at_drop {e l : List Sn} {j : Nat} (h : e.drop j = l.drop j) (k : Nat) (hk : j ≤ k) : at_ e k = at_ l k := by
  unfold at_
  rw [List.getD_eq_getElem?_getD, List.getD_eq_getElem?_getD]
  have h1 : e[k]? = (e.drop j)[k - j]? := by rw [List.getElem?_drop]; congr 1; omega
  have h2 : l[k]? = (l.drop j)[k - j]? := by rw [List.getElem?_drop]; congr 1; omega
  rw [h1, h2, h]
theorem drop_next {e l : List Sn} {j : Nat} (h : e.drop j = l.drop j) : e.drop (j + 1) = l.drop (j + 1) := by
  have := congrArg (List.drop 1) h
  rw [List.drop_drop, List.drop_drop] at this
  exact this
theorem filter_step (nd : Int) (l : List Sn) (j : Nat) (h : j < l.length) : (l.take (j + 1)).filter (keepB nd) = (l.take j).filter (keepB nd) ++ (if (at_ l j).nd = nd then [] else [at_ l j]) := take_keep nd l j _ (at_some l j h)
/-- What stands in the row while those of a node are taken out. -/
structure Del (nd : Int) (l e : List Sn) (i j : Nat) : Prop where
  len : e.length = l.length
  hi : i < j
  hj : j ≤ l.length
  take : e.take i = (l.take j).filter (keepB nd)
  drop : e.drop j = l.drop j
theorem Del.start (nd : Int) (l : List Sn) (h : firstN nd l < l.length) : Del nd l l (firstN nd l) (firstN nd l + 1) := ⟨rfl, by omega, by omega, by rw [filter_step nd l _ h, if_pos (firstN_stop nd l h), List.append_nil, firstN_take], rfl⟩
theorem Del.skip {nd : Int} {l e : List Sn} {i j : Nat} (h : Del nd l e i j) (hj : j < l.length) (hx : (at_ l j).nd = nd) : Del nd l e i (j + 1) := ⟨h.len, by have := h.hi; omega, by omega, by rw [filter_step nd l j hj, if_pos hx, List.append_nil]; exact h.take, drop_next h.drop⟩
theorem Del.keep {nd : Int} {l e : List Sn} {i j : Nat} (h : Del nd l e i j) (hj : j < l.length) (hx : ¬ (at_ l j).nd = nd) : Del nd l (e.set i (at_ l j)) (i + 1) (j + 1) := ⟨by rw [List.length_set]; exact h.len, by have := h.hi; omega, by omega, by rw [filter_step nd l j hj, if_neg hx, take_set e i _ (by have := h.len; have := h.hi; omega), h.take], by rw [drop_set e i (j + 1) _ (by have := h.hi; omega)]; exact drop_next h.drop⟩
theorem Del.done {nd : Int} {l e : List Sn} {i j : Nat} (h : Del nd l e i j) (hj : ¬ j < l.length) : e.take i = l.filter (keepB nd) ∧ i < l.length ∧ (l.filter (keepB nd)).length = i := by
  have e1 : l.take j = l := List.take_of_length_le (by omega)
  have h1 := h.take
  rw [e1] at h1
  have hil : i < l.length := by have := h.hi; have := h.hj; omega
  exact ⟨h1, hil, by rw [← h1, List.length_take, h.len]; omega⟩
theorem filter_all (nd : Int) (l : List Sn) (h : ¬ firstN nd l < l.length) : l.filter (keepB nd) = l := by
  have e1 : l.take (firstN nd l) = l := List.take_of_length_le (by omega)
  have := firstN_take nd l
  rw [e1] at this
  exact this

set_option linter.unusedSimpArgs false in
set_option maxHeartbeats 4000000 in
set_option maxRecDepth 100000 in
theorem del_any {w : World} {base g cap N : Nat} {l : List Sn} (h : IsL w base (.slice (some ⟨g, 0, none⟩) N cap) l) (hN : l.length = N) (hl : N ≤ 100000) {q : Nat} {nd : Int} (hq : w.cell? ⟨q, 0, none⟩ = some (.int .i64 nd)) (hqg : q ≠ g) :
    Calls Try.prog 37 #[.slice (some ⟨g, 0, none⟩) N cap, .func (.func 38) #[] #[.pointer (some ⟨q, 0, none⟩)]] w fun e w' => e = .returned (.slice (some ⟨g, 0, none⟩) (l.filter (keepB nd)).length cap) ∧ IsL w' base (.slice (some ⟨g, 0, none⟩) (l.filter (keepB nd)).length cap) (l.filter (keepB nd)) ∧ Kp [g] w w' := by
  obtain ⟨M, hM⟩ : ∃ M, Hid (M = firstN nd l) := ⟨_, rfl⟩
  obtain ⟨FF, hFF⟩ : ∃ FF, Hid (FF = l.filter (keepB nd)) := ⟨_, rfl⟩
  rw [← hFF.out]
  have IX := idx_any h hN hl hq M hM.out
  have hql := lt_of_cell hq
  have hgl := (h.lt g rfl).2
  have HQ : Hid (∀ z, Kp [g] w z → z.cell? ⟨q, 0, none⟩ = some (.int .i64 nd)) := fun z hz => hz.cell hq (by simpa using hqg)
  by_cases hMN : M < N
  rotate_left
  · rw [if_neg hMN] at IX
    have e1 : FF = l := by rw [hFF.out]; exact filter_all nd l (by rw [← hM.out, hN]; exact hMN)
    have RES : Hid (∀ z, Below w.heap.size w z → IsL z base (.slice (some ⟨g, 0, none⟩) FF.length cap) FF ∧ Kp [g] w z) := fun z hz => ⟨by rw [e1, hN]; exact isL_same h (fun i hi => hz.block i (h.lt i hi).2), Kp.of hz⟩
    have e2 : FF.length = N := by rw [e1]; exact hN
    clear h hq HQ
    go_enter Try.func37, Try.ntmps37
    go_wp2_with fail
    refine IX.mono ?_
    rintro e z ⟨rfl, bz⟩
    have R2 : Hid _ := RES.out z bz
    clear IX RES bz
    go_wp2_with fail
    go_ret
    rw [e2] at R2 ⊢
    exact ⟨rfl, R2.out⟩
  rw [if_pos hMN] at IX
  have wM : IntKind.i64.wrap ((M : Int) + 1) = ((M + 1 : Nat) : Int) := by rw [IntKind.wrap_i64]; omega
  have gM : ¬ (M : Int) = -1 := by omega
  have INI : Hid (∀ z, Below w.heap.size w z → ∃ (i j : Nat) (e : List Sn), Value.int .i64 (M : Int) = .int .i64 (i : Int) ∧ Value.int .i64 ((M + 1 : Nat) : Int) = .int .i64 (j : Int) ∧ Del nd l e i j ∧ IsL z base (.slice (some ⟨g, 0, none⟩) N cap) e ∧ Kp [g] w z) := fun z hz => ⟨M, M + 1, l, rfl, rfl, by rw [hM.out]; exact Del.start nd l (by rw [← hM.out, hN]; exact hMN), isL_same h (fun i hi => hz.block i (h.lt i hi).2), Kp.of hz⟩
  clear h hq
  go_enter Try.func37, Try.ntmps37
  go_wp2_with fail
  refine IX.mono ?_
  rintro e z ⟨rfl, bz⟩
  have INI2 : Hid _ := INI.out z bz
  clear IX INI bz
  go_wp2_with fail
  go_loopw [5, 6] (fun u5 u6 vr => ∃ (i j : Nat) (e : List Sn), u5 = .int .i64 (i : Int) ∧ u6 = .int .i64 (j : Int) ∧ Del nd l e i j ∧ IsL vr base (.slice (some ⟨g, 0, none⟩) N cap) e ∧ Kp [g] w vr) (fun _ u6 _ => N - (intOf u6).toNat)
  case atStart => exact INI2.out
  case round =>
    clear INI2
    obtain ⟨i, j, e, rfl, rfl, hD, hE, hK⟩ := hrel
    have heN : e.length = N := hD.len.trans hN
    by_cases hjN : j < N
    · have gj : (j : Int) < (N : Int) := by omega
      have gi : (i : Int) < (N : Int) := by have := hD.hi; omega
      have wj : IntKind.i64.wrap ((j : Int) + 1) = ((j + 1 : Nat) : Int) := by rw [IntKind.wrap_i64]; omega
      have wi : IntKind.i64.wrap ((i : Int) + 1) = ((i + 1 : Nat) : Int) := by have := hD.hi; rw [IntKind.wrap_i64]; omega
      have hE2 : IsL wr base (.slice (some ⟨g, 0, none⟩) e.length cap) e := by rw [heN]; exact hE
      have LD := hE2.load j (at_ l j) (by rw [at_some e j (by omega), at_drop hD.drop j (Nat.le_refl _)])
      have C : Hid (∀ z, Below wr.heap.size wr z → Calls Try.prog 38 #[.agg (at_ l j).A, .pointer (some ⟨q, 0, none⟩)] z fun e w' => e = .returned (.bool (decide ((at_ l j).nd = nd))) ∧ Below z.heap.size z w') := fun z hz => drop1_any (at_ l j) q nd z (by rw [hz.cell (p := ⟨q, 0, none⟩) (lt_of_cell (HQ.out wr hK))]; exact HQ.out wr hK)
      have HE : Hid (∀ z, Below wr.heap.size wr z → IsL z base (.slice (some ⟨g, 0, none⟩) e.length cap) e ∧ Kp [g] w z) := fun z hz => ⟨isL_same hE2 (fun i hi => hz.block i (hE.lt i hi).2), hK.trans (Kp.of hz)⟩
      have BA : Hid (∀ o, Below wr.heap.size wr (wr.alloc o)) := fun o => Below.al (Below.refl _ _) o
      have ST := run_storeVar_new (P := Try.prog) wr 42 #[.int .i64 0, .int .u16 0, .int .i64 0, .int .u8 0, .int .u8 0, .int .u8 0, .int .u8 0, .int .u8 0, .int .u8 0, .int .u8 0, .int .u8 0, .bool false, .int .i64 0] (at_ l j).A size42 rfl (by simp [Value.oneCell'])
      by_cases hx : (at_ l j).nd = nd
      · have D2 : Hid _ := hD.skip (by rw [hN]; exact hjN) hx
        have C2 : Hid (∀ z, Below wr.heap.size wr z → Calls Try.prog 38 #[.agg (at_ l j).A, .pointer (some ⟨q, 0, none⟩)] z fun e w' => e = .returned (.bool true) ∧ Below z.heap.size z w') := fun z hz => by have := C.out z hz; rw [show decide ((at_ l j).nd = nd) = true from by simp [hx]] at this; exact this
        generalize at_ l j = x at *
        clear hD hE hE2 hK C hx
        go_wp2_with (first | refine wpList_load_by rfl 42 (.tmp 24) rfl _ _ rfl LD ?_ | refine wpList_store_by rfl 42 (.tmp 7) (.tmp 25) rfl _ _ rfl rfl ST ?_)
        refine (C2.out _ (BA.out _)).mono ?_
        rintro e9 z2 ⟨rfl, bz2⟩
        have R2 : Hid _ := HE.out z2 (Below.andThen (BA.out _) bz2)
        clear C2 HE bz2 LD
        go_wp2_with fail
        rw [heN] at R2
        first
          | exact ⟨⟨i, j + 1, e, rfl, rfl, D2.out, R2.out⟩, by simp [intOf]; omega⟩
          | exact ⟨⟨_, _, _, _, _, _, _, _, _, _, _, _, _, _, _, _, _, _, _, _, _, _, _, ⟨i, j + 1, e, rfl, by simp, D2.out, R2.out⟩, rfl⟩, by simp [intOf]; omega⟩
      · have D2 : Hid _ := hD.keep (by rw [hN]; exact hjN) hx
        have C2 : Hid (∀ z, Below wr.heap.size wr z → Calls Try.prog 38 #[.agg (at_ l j).A, .pointer (some ⟨q, 0, none⟩)] z fun e w' => e = .returned (.bool false) ∧ Below z.heap.size z w') := fun z hz => by have := C.out z hz; rw [show decide ((at_ l j).nd = nd) = false from by simp [hx]] at this; exact this
        have hil : i < e.length := by have := hD.hi; omega
        generalize at_ l j = x at *
        clear hD hE hE2 hK C hx
        go_wp2_with (first | refine wpList_load_by rfl 42 (.tmp 24) rfl _ _ rfl LD ?_ | refine wpList_store_by rfl 42 (.tmp 7) (.tmp 25) rfl _ _ rfl rfl ST ?_)
        refine (C2.out _ (BA.out _)).mono ?_
        rintro e9 z2 ⟨rfl, bz2⟩
        have hb7 : z2.heap[wr.heap.size]? = some (.cells x.A 42 (0, 0)) := (bz2.block wr.heap.size (by simp)).trans (heap_alloc_last wr _)
        have L7 := run_loadVar_row (P := Try.prog) z2 wr.heap.size 42 42 x.A (0, 0) _ hb7 Try.underlying42 rfl size42
        obtain ⟨hE3, hK3⟩ := HE.out z2 (Below.andThen (BA.out _) bz2)
        obtain ⟨z3, S3, hE4, k4⟩ := hE3.store i x hil
        have R2 : Hid (IsL z3 base (.slice (some ⟨g, 0, none⟩) N cap) (e.set i x) ∧ Kp [g] w z3) := ⟨by rw [heN] at hE4; exact hE4, hK3.trans k4⟩
        clear C2 HE bz2 LD hb7 hE3 hK3 hE4 k4
        go_wp2_with (first | refine wpList_load_by rfl 42 (.tmp 7) rfl _ _ rfl L7 ?_ | refine wpList_store_by rfl 42 (.tmp 33) (.tmp 32) rfl _ _ rfl rfl S3 ?_)
        first
          | exact ⟨⟨i + 1, j + 1, _, rfl, rfl, D2.out, R2.out⟩, by simp [intOf]; omega⟩
          | exact ⟨⟨_, _, _, _, _, _, _, _, _, _, _, _, _, _, _, _, _, _, _, _, _, _, _, ⟨i + 1, j + 1, _, by simp, by simp, D2.out, R2.out⟩, rfl⟩, by simp [intOf]; omega⟩
    · have gj : ¬ (j : Int) < (N : Int) := by omega
      obtain ⟨d1, d2, d3⟩ := hD.done (by rw [hN]; exact hjN)
      rw [← hFF.out] at d1 d3
      rw [hN] at d2
      have hE2 : IsL wr base (.slice (some ⟨g, 0, none⟩) e.length cap) e := by rw [heN]; exact hE
      have hcap : N ≤ cap := by
        rcases hE.form with ⟨h1, _⟩ | ⟨_, _, _, hv, _, _, hn, _⟩
        · cases h1
        · cases hv; exact hn
      have CL : Hid (∀ ty, ∃ w', (Builtin.clear_ #[57] ty #[.slice (some ⟨g, i * 13, none⟩) (N - i) (cap - i)]).run Try.prog wr = .ok (.tuple #[]) w' ∧ IsL w' base (.slice (some ⟨g, 0, none⟩) FF.length cap) FF ∧ Kp [g] w w') := fun ty => by
        obtain ⟨w', r1, r2, r3⟩ := clear_any hE2 i (by rw [heN]; exact d2) ty
        rw [heN] at r1
        rw [d1] at r2
        rw [d3]
        exact ⟨w', r1, r2, hK.trans r3⟩
      have SL1 : ∀ w, (Instr.slice 57 (.slice (some ⟨g, 0, none⟩) N cap) (some (.int .i64 (i : Int))) none none).run Try.prog w = .ok (.slice (some ⟨g, i * 13, none⟩) (N - i) (cap - i)) w := fun w => by
        have q1 : (i : Int) ≤ (N : Int) := by omega
        have q2 : ¬ (N : Int) < (i : Int) := by omega
        have q3 : (0 : Int) ≤ (i : Int) := by omega
        have q4 : ¬ cap = i := by omega
        obtain ⟨i0, hi0, hz0, hz1, hz2⟩ := info_parts infoS
        clear hE hE2 hK hD CL HQ
        go_simp
        all_goals try omega
      have SL2 : ∀ w, (Instr.slice 57 (.slice (some ⟨g, 0, none⟩) N cap) none (some (.int .i64 (i : Int))) none).run Try.prog w = .ok (.slice (some ⟨g, 0, none⟩) i cap) w := fun w => by
        have q1 : (i : Int) ≤ (cap : Int) := by omega
        have q2 : ¬ (cap : Int) < (i : Int) := by omega
        have q3 : (0 : Int) ≤ (i : Int) := by omega
        clear hE hE2 hK hD CL HQ SL1
        go_simp
        all_goals try omega
      obtain ⟨w9, r1, r2, r3⟩ := CL.out 0
      have RES : Hid _ := And.intro r2 r3
      clear hE hE2 hK hD r2 r3 HQ
      rw [d3] at RES
      go_wp2_with fail
      go_ret
      exact ⟨rfl, RES.out⟩
#print axioms del_any
end Go.Proofs.Ytndlpjfofjikeaa
