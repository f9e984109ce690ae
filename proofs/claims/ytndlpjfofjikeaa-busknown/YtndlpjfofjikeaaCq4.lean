/-
  The first one of a node; those of a node taken out.
-/
import Derived.Test.YtndlpjfofjikeaaCp4
namespace Go.Proofs.Ytndlpjfofjikeaa
open Go.RowKit

/-- How many stand ahead of the first one of a node. -/
def firstN (nd : Int) : List Sn → Nat
  | [] => 0
  | x :: l => if x.nd = nd then 0 else firstN nd l + 1
theorem at_cons1 (x : Sn) (l : List Sn) (k : Nat) : at_ (x :: l) (k + 1) = at_ l k := rfl
theorem firstN_le (nd : Int) : ∀ (l : List Sn), firstN nd l ≤ l.length
  | [] => Nat.le_refl _
  | x :: l => by
    have := firstN_le nd l
    unfold firstN
    split <;> simp only [List.length_cons] <;> omega
theorem firstN_lt (nd : Int) : ∀ (l : List Sn) (k : Nat), k < firstN nd l → ¬ (at_ l k).nd = nd
  | [], k, h => by unfold firstN at h; omega
  | x :: l, k, h => by
    unfold firstN at h
    split at h
    · omega
    · rename_i c
      cases k with
      | zero => exact c
      | succ k => rw [at_cons1]; exact firstN_lt nd l k (by omega)
theorem firstN_stop (nd : Int) : ∀ (l : List Sn), firstN nd l < l.length → (at_ l (firstN nd l)).nd = nd
  | [], h => by simp at h
  | x :: l, h => by
    unfold firstN at h ⊢
    by_cases c : x.nd = nd
    · rw [if_pos c]; exact c
    · rw [if_neg c] at h ⊢
      rw [at_cons1]
      exact firstN_stop nd l (by simp only [List.length_cons] at h; omega)
theorem firstN_take (nd : Int) (l : List Sn) : (l.take (firstN nd l)).filter (keepB nd) = l.take (firstN nd l) := by
  rw [List.filter_eq_self]
  intro x hx
  obtain ⟨k, hk, e⟩ := List.getElem_of_mem hx
  rw [List.length_take] at hk
  have h1 := at_some l k (by omega)
  have h2 : (l.take (firstN nd l))[k]? = some x := by rw [List.getElem?_eq_getElem (by rw [List.length_take]; exact hk), e]
  rw [List.getElem?_take, if_pos (by omega), h1] at h2
  have := firstN_lt nd l k (by omega)
  rw [Option.some.inj h2] at this
  simp [keepB, this]

set_option linter.unusedSimpArgs false in
set_option maxHeartbeats 4000000 in
set_option maxRecDepth 100000 in
theorem idx_any {w : World} {base g cap N : Nat} {l : List Sn} (h : IsL w base (.slice (some ⟨g, 0, none⟩) N cap) l) (hN : l.length = N) (hl : N ≤ 100000) {q : Nat} {nd : Int} (hq : w.cell? ⟨q, 0, none⟩ = some (.int .i64 nd)) (M : Nat) (hM : M = firstN nd l) :
    Calls Try.prog 44 #[.slice (some ⟨g, 0, none⟩) N cap, .func (.func 38) #[] #[.pointer (some ⟨q, 0, none⟩)]] w fun e w' => e = .returned (.int .i64 (if M < N then (M : Int) else -1)) ∧ Below w.heap.size w w' := by
  have hMN : M ≤ N := by rw [hM, ← hN]; exact firstN_le nd l
  obtain ⟨R, hR⟩ : ∃ R, Hid (R = if M < N then (M : Int) else -1) := ⟨_, rfl⟩
  rw [← hR.out]
  have HL : Hid (∀ z, Below w.heap.size w z → IsL z base (.slice (some ⟨g, 0, none⟩) l.length cap) l) := fun z hz => isL_same (by rw [hN]; exact h) (fun i hi => hz.block i (h.lt i hi).2)
  have HQ : Hid (∀ z, Below w.heap.size w z → z.cell? ⟨q, 0, none⟩ = some (.int .i64 nd)) := fun z hz => by rw [hz.cell (p := ⟨q, 0, none⟩) (lt_of_cell hq)]; exact hq
  have HM : Hid (∀ k, k < N → (k < M → ¬ (at_ l k).nd = nd) ∧ (k = M → (at_ l k).nd = nd)) := fun k hk => ⟨fun e => firstN_lt nd l k (by rw [← hM]; exact e), fun e => by rw [e, hM]; exact firstN_stop nd l (by rw [← hM, hN, ← e]; exact hk)⟩
  have HA : Hid (∀ k, k < N → l[k]? = some (at_ l k)) := fun k hk => at_some l k (by rw [hN]; exact hk)
  clear h hq hM hN
  go_enter Try.func44, Try.ntmps44
  go_wp2_with fail
  go_loopw [8] (fun u vr => ∃ k : Nat, u = .int .i64 (k : Int) ∧ k ≤ M ∧ Below w.heap.size w vr) (fun u _ => M + 1 - (intOf u).toNat)
  case atStart => exact ⟨0, rfl, Nat.zero_le _, Below.refl _ _⟩
  case round =>
    obtain ⟨k, rfl, hk, hB⟩ := hrel
    by_cases hkN : k < N
    · have gk : (k : Int) < (N : Int) := by omega
      have wk : IntKind.i64.wrap ((k : Int) + 1) = ((k + 1 : Nat) : Int) := by rw [IntKind.wrap_i64]; omega
      have LD := (HL.out wr hB).load k _ (HA.out k hkN)
      have C := drop1_any (at_ l k) q nd wr (HQ.out wr hB)
      obtain ⟨m1, m2⟩ := HM.out k hkN
      have HBB : Hid _ := hB
      by_cases hkM : k < M
      · have e1 := m1 hkM
        rw [show decide ((at_ l k).nd = nd) = false from by simp [e1]] at C
        generalize at_ l k = x at *
        clear m1 m2 hB e1
        go_wp2_with (refine wpList_load_by rfl 42 (.tmp 14) rfl _ _ rfl LD ?_)
        refine C.mono ?_
        rintro e z ⟨rfl, bz⟩
        have B2 : Hid _ := Below.andThen HBB.out bz
        clear C bz LD
        go_wp2_with fail
        exact ⟨⟨k + 1, rfl, by omega, B2.out⟩, by simp [intOf]; omega⟩
      · have e1 := m2 (by omega)
        rw [show decide ((at_ l k).nd = nd) = true from by simp [e1]] at C
        generalize at_ l k = x at *
        clear m1 m2 hB e1
        go_wp2_with (refine wpList_load_by rfl 42 (.tmp 14) rfl _ _ rfl LD ?_)
        refine C.mono ?_
        rintro e z ⟨rfl, bz⟩
        have B2 : Hid _ := Below.andThen HBB.out bz
        clear C bz LD
        go_wp2_with fail
        go_ret
        rw [hR.out, if_pos (by omega), show M = k from by omega]
        exact ⟨rfl, B2.out⟩
    · have gk : ¬ (k : Int) < (N : Int) := by omega
      have HBB : Hid _ := hB
      clear hB
      go_wp2_with fail
      go_ret
      rw [hR.out, if_neg (by omega)]
      exact ⟨rfl, HBB.out⟩
#print axioms idx_any
theorem zero_one (n : Nat) : ∀ v ∈ (Builtin.zeroCells #[.int .i64 0, .int .u16 0, .int .i64 0, .int .u8 0, .int .u8 0, .int .u8 0, .int .u8 0, .int .u8 0, .int .u8 0, .int .u8 0, .int .u8 0, .bool false, .int .i64 0] n).toList, v.oneCell' = true := fun v hv => by
  have h13 : ∀ r, r < 13 → ((#[.int .i64 0, .int .u16 0, .int .i64 0, .int .u8 0, .int .u8 0, .int .u8 0, .int .u8 0, .int .u8 0, .int .u8 0, .int .u8 0, .int .u8 0, .bool false, .int .i64 0] : Array Value)[r]!).oneCell' = true := by decide
  simp only [Builtin.zeroCells, Array.toList_map, List.mem_map] at hv
  obtain ⟨k, _, rfl⟩ := hv
  exact h13 _ (Nat.mod_lt _ (by decide))
/-- Those behind some of them made empty. -/
theorem clear_any {w : World} {base g cap : Nat} {l : List Sn} (h : IsL w base (.slice (some ⟨g, 0, none⟩) l.length cap) l) (i : Nat) (hi : i < l.length) (ty : TypeId) :
    ∃ w', (Builtin.clear_ #[57] ty #[.slice (some ⟨g, i * 13, none⟩) (l.length - i) (cap - i)]).run Try.prog w = .ok (.tuple #[]) w' ∧ IsL w' base (.slice (some ⟨g, 0, none⟩) i cap) (l.take i) ∧ Kp [g] w w' := by
  rcases h.form with ⟨h1, _⟩ | ⟨g', cap', cur, hv, hg, hh, hn, hm, hs, ht⟩
  · cases h1
  cases hv
  obtain ⟨ie, hi0, hz0, hz1, hz2⟩ := info_parts infoS
  have hv : ∀ w, (zeroValue 42).run Try.prog w = .ok (.agg #[.int .i64 0, .int .u16 0, .int .i64 0, .int .u8 0, .int .u8 0, .int .u8 0, .int .u8 0, .int .u8 0, .int .u8 0, .int .u8 0, .int .u8 0, .bool false, .int .i64 0]) w := fun w => by simp [zeroValue, typeInfo, hi0, hz0]
  obtain ⟨zs, hzs⟩ : ∃ zs, zs = (Builtin.zeroCells #[.int .i64 0, .int .u16 0, .int .i64 0, .int .u8 0, .int .u8 0, .int .u8 0, .int .u8 0, .int .u8 0, .int .u8 0, .int .u8 0, .int .u8 0, .bool false, .int .i64 0] (l.length - i)).toList := ⟨_, rfl⟩
  have hzl : zs.length = (l.length - i) * 13 := by rw [hzs, Array.length_toList, size_zeroCells]; rfl
  have h1 : ∀ v ∈ zs, v.oneCell' = true := by rw [hzs]; exact zero_one _
  have hcap : (i + (l.length - i)) * 13 ≤ cap * 13 := Nat.mul_le_mul_right _ (by omega)
  have hst := run_storeCells_at Try.prog g (i * 13) 42 zs 0 cur w hh (by rw [hzl, hs, Nat.add_zero]; omega) h1
  rw [Nat.add_zero] at hst
  obtain ⟨m, hm2⟩ : ∃ m, l.length - i = m + 1 := ⟨l.length - i - 1, by omega⟩
  have hrun : (Builtin.clear_ #[57] ty #[.slice (some ⟨g, i * 13, none⟩) (l.length - i) (cap - i)]).run Try.prog w = .ok (.tuple #[]) (w.setRow g (cur.toList.take (i * 13) ++ zs ++ cur.toList.drop (i * 13 + zs.length)).toArray) := by
    rw [hm2] at hzs ⊢
    simp [Builtin.clear_, run_underlying Try.underlying57, hv, Value.cells, ← hzs, hst]
  have hti : (l.take i).length = i := by rw [List.length_take]; omega
  refine ⟨_, hrun, ⟨by rw [flat_len], .inr ⟨g, cap, _, by rw [hti], hg, setRow_heap w g cur _ _ _ hh, by rw [hti]; omega, hm, ?_, ?_⟩⟩, (Kp.refl _ _).row g _ (.inl (by simp))⟩
  · simp only [List.size_toArray, List.length_append, List.length_take, List.length_drop, Array.length_toList, hzl, hs]
    omega
  · rw [List.toList_toArray, List.append_assoc, hti, List.take_append_of_le_length (by rw [List.length_take, Array.length_toList, hs]; omega), List.take_take, Nat.min_self]
    have e1 : (flat l).take (i * 13) = flat (l.take i) := by
      conv => lhs; rw [← List.take_append_drop i l, flat_app]
      have hl : (flat (l.take i)).length = i * 13 := by rw [flat_len, hti]
      rw [List.take_append_of_le_length (by omega), List.take_of_length_le (by omega)]
    rw [← e1, ← ht, List.take_take, Nat.min_eq_left (Nat.mul_le_mul_right _ (by omega))]
#print axioms clear_any
end Go.Proofs.Ytndlpjfofjikeaa
