/-
  slices.IndexFunc and DeleteFunc of places.
-/
import Derived.Test.YtpjmebaipnpegaaDoorHd
import Derived.Deep.WholeRow
namespace Go.Proofs.YtpjmebaipnpegaaDoor
open Go.RowKit

def at_ (l : List Pq) (k : Nat) : Pq := l.getD k default
theorem at_some (l : List Pq) (k : Nat) (h : k < l.length) : l[k]? = some (at_ l k) := by
  unfold at_
  rw [List.getD_eq_getElem?_getD, List.getElem?_eq_getElem h]
  rfl
theorem take_keep (nd : Pq → Bool) (l : List Pq) (i : Nat) (x : Pq) (h : l[i]? = some x) : (l.take (i + 1)).filter nd = (l.take i).filter nd ++ (if nd x = false then [] else [x]) := by
  obtain ⟨hi, he⟩ := List.getElem?_eq_some_iff.1 h
  rw [List.take_succ_eq_append_getElem hi, List.filter_append, he]
  congr 1
  by_cases c : nd x = false
  · simp [c]
  · simp at c
    simp [c]
theorem isQ_same {w w' : World} {base : Nat} {v : Value} {l : List Pq} (h : IsQ w base v l) (hk : ∀ k, v.ownBlock = some k → w'.heap[k]? = w.heap[k]?) : IsQ w' base v l := by
  refine ⟨h.1, ?_⟩
  rcases h.2 with ⟨h1, h2⟩ | ⟨g, cap, cur, hv, hb, hh, r⟩
  · exact .inl ⟨h1, h2⟩
  · exact .inr ⟨g, cap, cur, hv, hb, (hk g (by rw [hv]; rfl)).trans hh, r⟩

/-- How many stand ahead of the first one of a node. -/
def qfirstN (nd : Pq → Bool) : List Pq → Nat
  | [] => 0
  | x :: l => if nd x = false then 0 else qfirstN nd l + 1
theorem qat_cons1 (x : Pq) (l : List Pq) (k : Nat) : at_ (x :: l) (k + 1) = at_ l k := rfl
theorem qfirstN_le (nd : Pq → Bool) : ∀ (l : List Pq), qfirstN nd l ≤ l.length
  | [] => Nat.le_refl _
  | x :: l => by
    have := qfirstN_le nd l
    unfold qfirstN
    split <;> simp only [List.length_cons] <;> omega
theorem qfirstN_lt (nd : Pq → Bool) : ∀ (l : List Pq) (k : Nat), k < qfirstN nd l → ¬ nd (at_ l k) = false
  | [], k, h => by unfold qfirstN at h; omega
  | x :: l, k, h => by
    unfold qfirstN at h
    split at h
    · omega
    · rename_i c
      cases k with
      | zero => exact c
      | succ k => rw [qat_cons1]; exact qfirstN_lt nd l k (by omega)
theorem qfirstN_stop (nd : Pq → Bool) : ∀ (l : List Pq), qfirstN nd l < l.length → nd (at_ l (qfirstN nd l)) = false
  | [], h => by simp at h
  | x :: l, h => by
    unfold qfirstN at h ⊢
    by_cases c : nd x = false
    · rw [if_pos c]; exact c
    · rw [if_neg c] at h ⊢
      rw [qat_cons1]
      exact qfirstN_stop nd l (by simp only [List.length_cons] at h; omega)
theorem qfirstN_take (nd : Pq → Bool) (l : List Pq) : (l.take (qfirstN nd l)).filter nd = l.take (qfirstN nd l) := by
  rw [List.filter_eq_self]
  intro x hx
  obtain ⟨k, hk, e⟩ := List.getElem_of_mem hx
  rw [List.length_take] at hk
  have h1 := at_some l k (by omega)
  have h2 : (l.take (qfirstN nd l))[k]? = some x := by rw [List.getElem?_eq_getElem (by rw [List.length_take]; exact hk), e]
  rw [List.getElem?_take, if_pos (by omega), h1] at h2
  have := qfirstN_lt nd l k (by omega)
  rw [Option.some.inj h2] at this
  simpa using this

set_option linter.unusedSimpArgs false in
set_option maxHeartbeats 4000000 in
set_option maxRecDepth 100000 in
theorem qidx_any {w : World} {base g cap N : Nat} {l : List Pq} (h : IsQ w base (.slice (some ⟨g, 0, none⟩) N cap) l) (hN : l.length = N) (hl : N ≤ 100000) {nd : Pq → Bool} (c1 c2 : Value) (HC : ∀ z, Kp [g] w z → ∀ x ∈ l, Calls Tryd.prog 37 #[.agg x.A, c1, c2] z fun e w' => e = .returned (.bool (decide (nd x = false))) ∧ Below z.heap.size z w') (M : Nat) (hM : M = qfirstN nd l) :
    Calls Tryd.prog 47 #[.slice (some ⟨g, 0, none⟩) N cap, .func (.func 37) #[] #[c1, c2]] w fun e w' => e = .returned (.int .i64 (if M < N then (M : Int) else -1)) ∧ Below w.heap.size w w' := by
  have hMN : M ≤ N := by rw [hM, ← hN]; exact qfirstN_le nd l
  obtain ⟨R, hR⟩ : ∃ R, Hid (R = if M < N then (M : Int) else -1) := ⟨_, rfl⟩
  rw [← hR.out]
  have HL : Hid (∀ z, Below w.heap.size w z → IsQ z base (.slice (some ⟨g, 0, none⟩) l.length cap) l) := fun z hz => isQ_same (by rw [hN]; exact h) (fun i hi => hz.block i (h.lt i hi).2)
  have HQ : Hid (∀ z, Below w.heap.size w z → ∀ x ∈ l, Calls Tryd.prog 37 #[.agg x.A, c1, c2] z fun e w' => e = .returned (.bool (decide (nd x = false))) ∧ Below z.heap.size z w') := fun z hz => HC z (Kp.of hz)
  have HI : Hid (∀ k, k < N → at_ l k ∈ l) := fun k hk => List.mem_of_getElem? (at_some l k (by rw [hN]; exact hk))
  have HM : Hid (∀ k, k < N → (k < M → ¬ nd (at_ l k) = false) ∧ (k = M → nd (at_ l k) = false)) := fun k hk => ⟨fun e => qfirstN_lt nd l k (by rw [← hM]; exact e), fun e => by rw [e, hM]; exact qfirstN_stop nd l (by rw [← hM, hN, ← e]; exact hk)⟩
  have HA : Hid (∀ k, k < N → l[k]? = some (at_ l k)) := fun k hk => at_some l k (by rw [hN]; exact hk)
  clear h HC hM hN
  go_enter Tryd.func47, Tryd.ntmps47
  go_wp2_with fail
  go_loopw [8] (fun u vr => ∃ k : Nat, u = .int .i64 (k : Int) ∧ k ≤ M ∧ Below w.heap.size w vr) (fun u _ => M + 1 - (intOf u).toNat)
  case atStart => exact ⟨0, rfl, Nat.zero_le _, Below.refl _ _⟩
  case round =>
    obtain ⟨k, rfl, hk, hB⟩ := hrel
    by_cases hkN : k < N
    · have gk : (k : Int) < (N : Int) := by omega
      have wk : IntKind.i64.wrap ((k : Int) + 1) = ((k + 1 : Nat) : Int) := by rw [IntKind.wrap_i64]; omega
      have LD := (HL.out wr hB).load k _ (HA.out k hkN)
      have C := HQ.out wr hB (at_ l k) (HI.out k hkN)
      obtain ⟨m1, m2⟩ := HM.out k hkN
      have HBB : Hid _ := hB
      by_cases hkM : k < M
      · have e1 := m1 hkM
        rw [show decide (nd (at_ l k) = false) = false from by simp [e1]] at C
        generalize at_ l k = x at *
        clear m1 m2 hB e1
        go_wp2_with (refine wpList_load_by rfl 33 (.tmp 14) rfl _ _ rfl LD ?_)
        refine C.mono ?_
        rintro e z ⟨rfl, bz⟩
        have B2 : Hid _ := Below.andThen HBB.out bz
        clear C bz LD
        go_wp2_with fail
        exact ⟨⟨k + 1, rfl, by omega, B2.out⟩, by simp [intOf]; omega⟩
      · have e1 := m2 (by omega)
        rw [show decide (nd (at_ l k) = false) = true from by simp [e1]] at C
        generalize at_ l k = x at *
        clear m1 m2 hB e1
        go_wp2_with (refine wpList_load_by rfl 33 (.tmp 14) rfl _ _ rfl LD ?_)
        refine C.mono ?_
        rintro e z ⟨rfl, bz⟩
        have B2 : Hid _ := Below.andThen HBB.out bz
        clear C bz LD
        go_wp2_with fail
        go_ret
        rw [hR.out, if_pos (by omega), show M = k from by omega]
        exact ⟨rfl, B2.out⟩
    · have gk : ¬ (k : Int) < (N : Int) := by omega
      have HBB : Hid _ := hB
      clear hB
      go_wp2_with fail
      go_ret
      rw [hR.out, if_neg (by omega)]
      exact ⟨rfl, HBB.out⟩
#print axioms qidx_any
theorem qzero_one (n : Nat) : ∀ v ∈ (Builtin.zeroCells #[.int .u16 0, .int .u8 0] n).toList, v.oneCell' = true := fun v hv => by
  have h2z : ∀ r, r < 2 → ((#[.int .u16 0, .int .u8 0] : Array Value)[r]!).oneCell' = true := by decide
  simp only [Builtin.zeroCells, Array.toList_map, List.mem_map] at hv
  obtain ⟨k, _, rfl⟩ := hv
  exact h2z _ (Nat.mod_lt _ (by decide))
/-- Those behind some of them made empty. -/
theorem qclear_any {w : World} {base g cap : Nat} {l : List Pq} (h : IsQ w base (.slice (some ⟨g, 0, none⟩) l.length cap) l) (i : Nat) (hi : i < l.length) (ty : TypeId) :
    ∃ w', (Builtin.clear_ #[65] ty #[.slice (some ⟨g, i * 2, none⟩) (l.length - i) (cap - i)]).run Tryd.prog w = .ok (.tuple #[]) w' ∧ IsQ w' base (.slice (some ⟨g, 0, none⟩) i cap) (l.take i) ∧ Kp [g] w w' := by
  rcases h.form with ⟨h1, _⟩ | ⟨g', cap', cur, hv, hg, hh, hn, hm, hs, ht⟩
  · cases h1
  cases hv
  obtain ⟨ie, hi0, hz0, hz1, hz2⟩ := info_parts infoQ
  have hv : ∀ w, (zeroValue 33).run Tryd.prog w = .ok (.agg #[.int .u16 0, .int .u8 0]) w := fun w => by simp [zeroValue, typeInfo, hi0, hz0]
  obtain ⟨zs, hzs⟩ : ∃ zs, zs = (Builtin.zeroCells #[.int .u16 0, .int .u8 0] (l.length - i)).toList := ⟨_, rfl⟩
  have hzl : zs.length = (l.length - i) * 2 := by rw [hzs, Array.length_toList, size_zeroCells]; rfl
  have h1 : ∀ v ∈ zs, v.oneCell' = true := by rw [hzs]; exact qzero_one _
  have hcap : (i + (l.length - i)) * 2 ≤ cap * 2 := Nat.mul_le_mul_right _ (by omega)
  have hst := run_storeCells_at Tryd.prog g (i * 2) 33 zs 0 cur w hh (by rw [hzl, hs, Nat.add_zero]; omega) h1
  rw [Nat.add_zero] at hst
  obtain ⟨m, hm2⟩ : ∃ m, l.length - i = m + 1 := ⟨l.length - i - 1, by omega⟩
  have hrun : (Builtin.clear_ #[65] ty #[.slice (some ⟨g, i * 2, none⟩) (l.length - i) (cap - i)]).run Tryd.prog w = .ok (.tuple #[]) (w.setRow g (cur.toList.take (i * 2) ++ zs ++ cur.toList.drop (i * 2 + zs.length)).toArray) := by
    rw [hm2] at hzs ⊢
    simp [Builtin.clear_, run_underlying Tryd.underlying65, hv, Value.cells, ← hzs, hst]
  have hti : (l.take i).length = i := by rw [List.length_take]; omega
  refine ⟨_, hrun, ⟨by rw [flq_len], .inr ⟨g, cap, _, by rw [hti], hg, setRow_heap w g cur _ _ _ hh, by rw [hti]; omega, hm, ?_, ?_⟩⟩, (Kp.refl _ _).row g _ (.inl (by simp))⟩
  · simp only [List.size_toArray, List.length_append, List.length_take, List.length_drop, Array.length_toList, hzl, hs]
    omega
  · rw [List.toList_toArray, List.append_assoc, hti, List.take_append_of_le_length (by rw [List.length_take, Array.length_toList, hs]; omega), List.take_take, Nat.min_self]
    have e1 : (flq l).take (i * 2) = flq (l.take i) := by
      conv => lhs; rw [← List.take_append_drop i l, flq_app]
      have hl : (flq (l.take i)).length = i * 2 := by rw [flq_len, hti]
      rw [List.take_append_of_le_length (by omega), List.take_of_length_le (by omega)]
    rw [← e1, ← ht, List.take_take, Nat.min_eq_left (Nat.mul_le_mul_right _ (by omega))]
#print axioms qclear_any
theorem qtake_set (e : List Pq) (i : Nat) (x : Pq) (h : i < e.length) : (e.set i x).take (i + 1) = e.take i ++ [x] := by
  rw [List.set_eq_take_append_cons_drop, if_pos h, List.take_append, List.take_of_length_le (by rw [List.length_take]; omega), List.length_take, show i + 1 - min i e.length = 1 from by omega]
  rfl
theorem qdrop_set (e : List Pq) (i j : Nat) (x : Pq) (h : i < j) : (e.set i x).drop j = e.drop j := by
  rw [List.drop_set_of_lt h]
theorem qat_drop {e l : List Pq} {j : Nat} (h : e.drop j = l.drop j) (k : Nat) (hk : j ≤ k) : at_ e k = at_ l k := by
  unfold at_
  rw [List.getD_eq_getElem?_getD, List.getD_eq_getElem?_getD]
  have h1 : e[k]? = (e.drop j)[k - j]? := by rw [List.getElem?_drop]; congr 1; omega
  have h2 : l[k]? = (l.drop j)[k - j]? := by rw [List.getElem?_drop]; congr 1; omega
  rw [h1, h2, h]
theorem qdrop_next {e l : List Pq} {j : Nat} (h : e.drop j = l.drop j) : e.drop (j + 1) = l.drop (j + 1) := by
  have := congrArg (List.drop 1) h
  rw [List.drop_drop, List.drop_drop] at this
  exact this
theorem qfilter_step (nd : Pq → Bool) (l : List Pq) (j : Nat) (h : j < l.length) : (l.take (j + 1)).filter nd = (l.take j).filter nd ++ (if nd (at_ l j) = false then [] else [at_ l j]) := take_keep nd l j _ (at_some l j h)
/-- What stands in the row while those of a node are taken out. -/
structure DelQ (nd : Pq → Bool) (l e : List Pq) (i j : Nat) : Prop where
  len : e.length = l.length
  hi : i < j
  hj : j ≤ l.length
  take : e.take i = (l.take j).filter nd
  drop : e.drop j = l.drop j
theorem DelQ.start (nd : Pq → Bool) (l : List Pq) (h : qfirstN nd l < l.length) : DelQ nd l l (qfirstN nd l) (qfirstN nd l + 1) := ⟨rfl, by omega, by omega, by rw [qfilter_step nd l _ h, if_pos (qfirstN_stop nd l h), List.append_nil, qfirstN_take], rfl⟩
theorem DelQ.skip {nd : Pq → Bool} {l e : List Pq} {i j : Nat} (h : DelQ nd l e i j) (hj : j < l.length) (hx : nd (at_ l j) = false) : DelQ nd l e i (j + 1) := ⟨h.len, by have := h.hi; omega, by omega, by rw [qfilter_step nd l j hj, if_pos hx, List.append_nil]; exact h.take, qdrop_next h.drop⟩
theorem DelQ.keep {nd : Pq → Bool} {l e : List Pq} {i j : Nat} (h : DelQ nd l e i j) (hj : j < l.length) (hx : ¬ nd (at_ l j) = false) : DelQ nd l (e.set i (at_ l j)) (i + 1) (j + 1) := ⟨by rw [List.length_set]; exact h.len, by have := h.hi; omega, by omega, by rw [qfilter_step nd l j hj, if_neg hx, qtake_set e i _ (by have := h.len; have := h.hi; omega), h.take], by rw [qdrop_set e i (j + 1) _ (by have := h.hi; omega)]; exact qdrop_next h.drop⟩
theorem DelQ.done {nd : Pq → Bool} {l e : List Pq} {i j : Nat} (h : DelQ nd l e i j) (hj : ¬ j < l.length) : e.take i = l.filter nd ∧ i < l.length ∧ (l.filter nd).length = i := by
  have e1 : l.take j = l := List.take_of_length_le (by omega)
  have h1 := h.take
  rw [e1] at h1
  have hil : i < l.length := by have := h.hi; have := h.hj; omega
  exact ⟨h1, hil, by rw [← h1, List.length_take, h.len]; omega⟩
theorem qfilter_all (nd : Pq → Bool) (l : List Pq) (h : ¬ qfirstN nd l < l.length) : l.filter nd = l := by
  have e1 : l.take (qfirstN nd l) = l := List.take_of_length_le (by omega)
  have := qfirstN_take nd l
  rw [e1] at this
  exact this

set_option linter.unusedSimpArgs false in
set_option maxHeartbeats 4000000 in
set_option maxRecDepth 100000 in
theorem qdel_any {w : World} {base g cap N : Nat} {l : List Pq} (h : IsQ w base (.slice (some ⟨g, 0, none⟩) N cap) l) (hN : l.length = N) (hl : N ≤ 100000) {nd : Pq → Bool} (c1 c2 : Value) (HC : ∀ z, Kp [g] w z → ∀ x ∈ l, Calls Tryd.prog 37 #[.agg x.A, c1, c2] z fun e w' => e = .returned (.bool (decide (nd x = false))) ∧ Below z.heap.size z w') :
    Calls Tryd.prog 35 #[.slice (some ⟨g, 0, none⟩) N cap, .func (.func 37) #[] #[c1, c2]] w fun e w' => e = .returned (.slice (some ⟨g, 0, none⟩) (l.filter nd).length cap) ∧ IsQ w' base (.slice (some ⟨g, 0, none⟩) (l.filter nd).length cap) (l.filter nd) ∧ Kp [g] w w' := by
  obtain ⟨M, hM⟩ : ∃ M, Hid (M = qfirstN nd l) := ⟨_, rfl⟩
  obtain ⟨FF, hFF⟩ : ∃ FF, Hid (FF = l.filter nd) := ⟨_, rfl⟩
  rw [← hFF.out]
  have IX := qidx_any h hN hl c1 c2 HC M hM.out
  have hgl := (h.lt g rfl).2
  have HQ : Hid (∀ z, Kp [g] w z → ∀ x ∈ l, Calls Tryd.prog 37 #[.agg x.A, c1, c2] z fun e w' => e = .returned (.bool (decide (nd x = false))) ∧ Below z.heap.size z w') := HC
  have HI : Hid (∀ k, k < N → at_ l k ∈ l) := fun k hk => List.mem_of_getElem? (at_some l k (by rw [hN]; exact hk))
  by_cases hMN : M < N
  rotate_left
  · rw [if_neg hMN] at IX
    have e1 : FF = l := by rw [hFF.out]; exact qfilter_all nd l (by rw [← hM.out, hN]; exact hMN)
    have RES : Hid (∀ z, Below w.heap.size w z → IsQ z base (.slice (some ⟨g, 0, none⟩) FF.length cap) FF ∧ Kp [g] w z) := fun z hz => ⟨by rw [e1, hN]; exact isQ_same h (fun i hi => hz.block i (h.lt i hi).2), Kp.of hz⟩
    have e2 : FF.length = N := by rw [e1]; exact hN
    clear h HC HQ
    go_enter Tryd.func35, Tryd.ntmps35
    go_wp2_with fail
    refine IX.mono ?_
    rintro e z ⟨rfl, bz⟩
    have R2 : Hid _ := RES.out z bz
    clear IX RES bz
    go_wp2_with fail
    go_ret
    rw [e2] at R2 ⊢
    exact ⟨rfl, R2.out⟩
  rw [if_pos hMN] at IX
  have wM : IntKind.i64.wrap ((M : Int) + 1) = ((M + 1 : Nat) : Int) := by rw [IntKind.wrap_i64]; omega
  have gM : ¬ (M : Int) = -1 := by omega
  have INI : Hid (∀ z, Below w.heap.size w z → ∃ (i j : Nat) (e : List Pq), Value.int .i64 (M : Int) = .int .i64 (i : Int) ∧ Value.int .i64 ((M + 1 : Nat) : Int) = .int .i64 (j : Int) ∧ DelQ nd l e i j ∧ IsQ z base (.slice (some ⟨g, 0, none⟩) N cap) e ∧ Kp [g] w z) := fun z hz => ⟨M, M + 1, l, rfl, rfl, by rw [hM.out]; exact DelQ.start nd l (by rw [← hM.out, hN]; exact hMN), isQ_same h (fun i hi => hz.block i (h.lt i hi).2), Kp.of hz⟩
  clear h HC
  go_enter Tryd.func35, Tryd.ntmps35
  go_wp2_with fail
  refine IX.mono ?_
  rintro e z ⟨rfl, bz⟩
  have INI2 : Hid _ := INI.out z bz
  clear IX INI bz
  go_wp2_with fail
  go_loopw [5, 6] (fun u5 u6 vr => ∃ (i j : Nat) (e : List Pq), u5 = .int .i64 (i : Int) ∧ u6 = .int .i64 (j : Int) ∧ DelQ nd l e i j ∧ IsQ vr base (.slice (some ⟨g, 0, none⟩) N cap) e ∧ Kp [g] w vr) (fun _ u6 _ => N - (intOf u6).toNat)
  case atStart => exact INI2.out
  case round =>
    clear INI2
    obtain ⟨i, j, e, rfl, rfl, hD, hE, hK⟩ := hrel
    have heN : e.length = N := hD.len.trans hN
    by_cases hjN : j < N
    · have gj : (j : Int) < (N : Int) := by omega
      have gi : (i : Int) < (N : Int) := by have := hD.hi; omega
      have wj : IntKind.i64.wrap ((j : Int) + 1) = ((j + 1 : Nat) : Int) := by rw [IntKind.wrap_i64]; omega
      have wi : IntKind.i64.wrap ((i : Int) + 1) = ((i + 1 : Nat) : Int) := by have := hD.hi; rw [IntKind.wrap_i64]; omega
      have hE2 : IsQ wr base (.slice (some ⟨g, 0, none⟩) e.length cap) e := by rw [heN]; exact hE
      have LD := hE2.load j (at_ l j) (by rw [at_some e j (by omega), qat_drop hD.drop j (Nat.le_refl _)])
      have C : Hid (∀ z, Below wr.heap.size wr z → Calls Tryd.prog 37 #[.agg (at_ l j).A, c1, c2] z fun e w' => e = .returned (.bool (decide (nd (at_ l j) = false))) ∧ Below z.heap.size z w') := fun z hz => HQ.out z (hK.trans (Kp.of hz)) (at_ l j) (HI.out j hjN)
      have HE : Hid (∀ z, Below wr.heap.size wr z → IsQ z base (.slice (some ⟨g, 0, none⟩) e.length cap) e ∧ Kp [g] w z) := fun z hz => ⟨isQ_same hE2 (fun i hi => hz.block i (hE.lt i hi).2), hK.trans (Kp.of hz)⟩
      have BA : Hid (∀ o, Below wr.heap.size wr (wr.alloc o)) := fun o => Below.al (Below.refl _ _) o
      have ST := run_storeVar_new (P := Tryd.prog) wr 33 #[.int .u16 0, .int .u8 0] (at_ l j).A sizeP rfl (by simp [Value.oneCell'])
      by_cases hx : nd (at_ l j) = false
      · have D2 : Hid _ := hD.skip (by rw [hN]; exact hjN) hx
        have C2 : Hid (∀ z, Below wr.heap.size wr z → Calls Tryd.prog 37 #[.agg (at_ l j).A, c1, c2] z fun e w' => e = .returned (.bool true) ∧ Below z.heap.size z w') := fun z hz => by have := C.out z hz; rw [show decide (nd (at_ l j) = false) = true from by simp [hx]] at this; exact this
        generalize at_ l j = x at *
        clear hD hE hE2 hK C hx
        go_wp2_with (first | refine wpList_load_by rfl 33 (.tmp 24) rfl _ _ rfl LD ?_ | refine wpList_store_by rfl 33 (.tmp 7) (.tmp 25) rfl _ _ rfl rfl ST ?_)
        refine (C2.out _ (BA.out _)).mono ?_
        rintro e9 z2 ⟨rfl, bz2⟩
        have R2 : Hid _ := HE.out z2 (Below.andThen (BA.out _) bz2)
        clear C2 HE bz2 LD
        go_wp2_with fail
        rw [heN] at R2
        first
          | exact ⟨⟨i, j + 1, e, rfl, rfl, D2.out, R2.out⟩, by simp [intOf]; omega⟩
          | exact ⟨⟨_, _, _, _, _, _, _, _, _, _, _, _, _, _, _, _, _, _, _, _, _, _, _, ⟨i, j + 1, e, rfl, by simp, D2.out, R2.out⟩, rfl⟩, by simp [intOf]; omega⟩
      · have D2 : Hid _ := hD.keep (by rw [hN]; exact hjN) hx
        have C2 : Hid (∀ z, Below wr.heap.size wr z → Calls Tryd.prog 37 #[.agg (at_ l j).A, c1, c2] z fun e w' => e = .returned (.bool false) ∧ Below z.heap.size z w') := fun z hz => by have := C.out z hz; rw [show decide (nd (at_ l j) = false) = false from by simp [hx]] at this; exact this
        have hil : i < e.length := by have := hD.hi; omega
        generalize at_ l j = x at *
        clear hD hE hE2 hK C hx
        go_wp2_with (first | refine wpList_load_by rfl 33 (.tmp 24) rfl _ _ rfl LD ?_ | refine wpList_store_by rfl 33 (.tmp 7) (.tmp 25) rfl _ _ rfl rfl ST ?_)
        refine (C2.out _ (BA.out _)).mono ?_
        rintro e9 z2 ⟨rfl, bz2⟩
        have hb7 : z2.heap[wr.heap.size]? = some (.cells x.A 33 (0, 0)) := (bz2.block wr.heap.size (by simp)).trans (heap_alloc_last wr _)
        have L7 := run_loadVar_row (P := Tryd.prog) z2 wr.heap.size 33 33 x.A (0, 0) _ hb7 Tryd.underlying33 rfl sizeP
        obtain ⟨hE3, hK3⟩ := HE.out z2 (Below.andThen (BA.out _) bz2)
        obtain ⟨z3, S3, hE4, k4⟩ := hE3.store i x hil
        have R2 : Hid (IsQ z3 base (.slice (some ⟨g, 0, none⟩) N cap) (e.set i x) ∧ Kp [g] w z3) := ⟨by rw [heN] at hE4; exact hE4, hK3.trans k4⟩
        clear C2 HE bz2 LD hb7 hE3 hK3 hE4 k4
        go_wp2_with (first | refine wpList_load_by rfl 33 (.tmp 7) rfl _ _ rfl L7 ?_ | refine wpList_store_by rfl 33 (.tmp 33) (.tmp 32) rfl _ _ rfl rfl S3 ?_)
        first
          | exact ⟨⟨i + 1, j + 1, _, rfl, rfl, D2.out, R2.out⟩, by simp [intOf]; omega⟩
          | exact ⟨⟨_, _, _, _, _, _, _, _, _, _, _, _, _, _, _, _, _, _, _, _, _, _, _, ⟨i + 1, j + 1, _, by simp, by simp, D2.out, R2.out⟩, rfl⟩, by simp [intOf]; omega⟩
    · have gj : ¬ (j : Int) < (N : Int) := by omega
      obtain ⟨d1, d2, d3⟩ := hD.done (by rw [hN]; exact hjN)
      rw [← hFF.out] at d1 d3
      rw [hN] at d2
      have hE2 : IsQ wr base (.slice (some ⟨g, 0, none⟩) e.length cap) e := by rw [heN]; exact hE
      have hcap : N ≤ cap := by
        rcases hE.form with ⟨h1, _⟩ | ⟨_, _, _, hv, _, _, hn, _⟩
        · cases h1
        · cases hv; exact hn
      have CL : Hid (∀ ty, ∃ w', (Builtin.clear_ #[65] ty #[.slice (some ⟨g, i * 2, none⟩) (N - i) (cap - i)]).run Tryd.prog wr = .ok (.tuple #[]) w' ∧ IsQ w' base (.slice (some ⟨g, 0, none⟩) FF.length cap) FF ∧ Kp [g] w w') := fun ty => by
        obtain ⟨w', r1, r2, r3⟩ := qclear_any hE2 i (by rw [heN]; exact d2) ty
        rw [heN] at r1
        rw [d1] at r2
        rw [d3]
        exact ⟨w', r1, r2, hK.trans r3⟩
      have SL1 : ∀ w, (Instr.slice 65 (.slice (some ⟨g, 0, none⟩) N cap) (some (.int .i64 (i : Int))) none none).run Tryd.prog w = .ok (.slice (some ⟨g, i * 2, none⟩) (N - i) (cap - i)) w := fun w => by
        have q1 : (i : Int) ≤ (N : Int) := by omega
        have q2 : ¬ (N : Int) < (i : Int) := by omega
        have q3 : (0 : Int) ≤ (i : Int) := by omega
        have q4 : ¬ cap = i := by omega
        obtain ⟨i0, hi0, hz0, hz1, hz2⟩ := info_parts infoQ
        clear hE hE2 hK hD CL HQ
        go_simp
        all_goals try omega
      have SL2 : ∀ w, (Instr.slice 65 (.slice (some ⟨g, 0, none⟩) N cap) none (some (.int .i64 (i : Int))) none).run Tryd.prog w = .ok (.slice (some ⟨g, 0, none⟩) i cap) w := fun w => by
        have q1 : (i : Int) ≤ (cap : Int) := by omega
        have q2 : ¬ (cap : Int) < (i : Int) := by omega
        have q3 : (0 : Int) ≤ (i : Int) := by omega
        clear hE hE2 hK hD CL HQ SL1
        go_simp
        all_goals try omega
      obtain ⟨w9, r1, r2, r3⟩ := CL.out 0
      have RES : Hid _ := And.intro r2 r3
      clear hE hE2 hK hD r2 r3 HQ
      rw [d3] at RES
      go_wp2_with fail
      go_ret
      exact ⟨rfl, RES.out⟩
#print axioms qdel_any
end Go.Proofs.YtpjmebaipnpegaaDoor
