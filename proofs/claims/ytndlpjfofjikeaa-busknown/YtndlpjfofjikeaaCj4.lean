/-
  The document's Gone and Copy.
-/
import Derived.Test.YtndlpjfofjikeaaCi4
namespace Go.Proofs.Ytndlpjfofjikeaa
open Go.RowKit

/-- Is one of another node? -/
def keepB (nd : Int) (y : Sn) : Bool := decide (¬ y.nd = nd)
theorem take_keep (nd : Int) (l : List Sn) (i : Nat) (x : Sn) (h : l[i]? = some x) : (l.take (i + 1)).filter (keepB nd) = (l.take i).filter (keepB nd) ++ (if x.nd = nd then [] else [x]) := by
  obtain ⟨hi, he⟩ := List.getElem?_eq_some_iff.1 h
  rw [List.take_succ_eq_append_getElem hi, List.filter_append, he]
  congr 1
  by_cases c : x.nd = nd
  · simp [keepB, c]
  · simp [keepB, c]
theorem isR_form {w : World} {v : Value} {l : List Sn} (h : IsR w v l) : ∃ a cap, v = .slice a l.length cap := by
  rcases h.at_ with ⟨h1, h2⟩ | ⟨g, o, cap, _, h1, _⟩
  · exact ⟨none, 0, by rw [h1, h2]; rfl⟩
  · exact ⟨_, cap, h1⟩
abbrev OwnR (w : World) (base : Nat) (v : Value) (l : List Sn) : Prop := w.ownsRow base 63 13 v l.length (flat l)
theorem ownR_form {w : World} {base : Nat} {v : Value} {l : List Sn} (h : OwnR w base v l) : ∃ a cap, v = .slice a l.length cap := isR_form (isR_own h)
theorem ownR_next {w w' : World} {base : Nat} {v : Value} {l : List Sn} (h : OwnR w base v l) (k : Below w.heap.size w w') : OwnR w' base v l := h.kept (row := none) ⟨k.os, k.tape, k.output, k.size, fun i hi _ => k.block i hi⟩ (by cases v.ownBlock with | none => exact .inl rfl | some b => exact .inr (by simp))

set_option linter.unusedSimpArgs false in
set_option maxHeartbeats 4000000 in
set_option maxRecDepth 100000 in
theorem rgone_any {w : World} {p : Nat} {v : Value} {l : List Sn} {n : Int} (h : IsD w p v l n) (hl : l.length ≤ 100000) (nd : Int) :
    Calls Try.prog 22 #[.pointer (some ⟨p, 0, none⟩), .int .i64 nd] w fun e w' => e = .returned (.int .i64 ((l.length : Int) - ((l.filter (keepB nd)).length : Int))) ∧ (∃ v', IsD w' p v' (l.filter (keepB nd)) n) ∧ Kp [p] w w' := by
  obtain ⟨i0, hi, hz0, hz1, hz2⟩ := info_parts infoR
  have hp := lt_of_heap h.head
  obtain ⟨a, cap, rfl⟩ := isR_form h.r
  obtain ⟨N, hN⟩ : ∃ N, Hid (N = l.length) := ⟨_, rfl⟩
  have hN1 : N ≤ 100000 := by rw [hN.out]; exact hl
  rw [← hN.out] at h ⊢
  have HD : Hid _ := h
  have INI : Hid (∃ (cv : Value) (i : Nat), cv = Value.slice none 0 0 ∧ Value.int .i64 0 = .int .i64 (i : Int) ∧ i ≤ N ∧ OwnR w w.heap.size cv ((l.take i).filter (keepB nd)) ∧ Below w.heap.size w w) := ⟨_, 0, rfl, rfl, Nat.zero_le _, ⟨by simp [flat], .inl ⟨rfl, by simp⟩⟩, Below.refl _ _⟩
  clear h hl
  go_enter Try.func22, Try.ntmps22
  go_wp2_with fail
  go_loopw [5, 6] (fun u5 u6 vr => ∃ (cv : Value) (i : Nat), cv = u5 ∧ u6 = .int .i64 (i : Int) ∧ i ≤ N ∧ OwnR vr w.heap.size cv ((l.take i).filter (keepB nd)) ∧ Below w.heap.size w vr) (fun _ u6 _ => N - (intOf u6).toNat)
  case atStart => exact INI.out
  case round =>
    clear INI
    obtain ⟨cv, i, rfl, rfl, hiN, hO, hB⟩ := hrel
    have Hr := HD.out.next hB
    have k0 := Hr.c0
    by_cases hlt : i < N
    · have gi : (i : Int) < (N : Int) := by omega
      have wi : IntKind.i64.wrap ((i : Int) + 1) = ((i + 1 : Nat) : Int) := by rw [IntKind.wrap_i64]; omega
      rcases HD.out.r.at_ with ⟨_, h2⟩ | ⟨g, o, cap', cur, h1, _, _, hgb, hC⟩
      · have := hN.out; rw [h2] at this; simp at this; omega
      cases h1
      have hx := at_some l i (by rw [← hN.out]; exact hlt)
      generalize at_ l i = x at *
      have hCr := hC.below hB
      have cN : wr.cell? ⟨g, o + i * 13, none⟩ = some (.int .i64 x.nd) := hCr i x hx 0 _ rfl
      have TKE := take_keep nd l i x hx
      by_cases hnd : x.nd = nd
      · rw [if_pos hnd, List.append_nil] at TKE
        have RES : Hid (OwnR wr w.heap.size cv ((l.take (i + 1)).filter (keepB nd)) ∧ Below w.heap.size w wr) := ⟨by rw [TKE]; exact hO, hB⟩
        have gn : ¬ (¬ x.nd = nd) := fun e => e hnd
        clear hO hB Hr hC hCr TKE hgb
        go_wp2_with fail
        exact ⟨⟨cv, i + 1, rfl, rfl, by omega, RES.out⟩, by simp [intOf]; omega⟩
      · rw [if_neg hnd] at TKE
        have LD := loadR hCr i x hx
        obtain ⟨F, hF⟩ : ∃ F, Hid (F = (l.take i).filter (keepB nd)) := ⟨_, rfl⟩
        rw [← hF.out] at hO TKE
        have hFl : F.length ≤ 100000 := by
          have h1 := List.length_filter_le (keepB nd) (l.take i)
          have h2 := List.length_take_le i l
          rw [hF.out]
          omega
        have OWN : Hid (∀ o, OwnR (wr.alloc o) w.heap.size cv F) := fun o => ownR_next hO (Below.al (Below.refl _ _) o)
        have HBB : Hid (Below w.heap.size w wr) := hB
        have CVB : Hid (∀ k, cv.ownBlock = some k → w.heap.size ≤ k) := fun k hk => (hO.lt k hk).1
        have BAS : Hid (w.heap.size ≤ wr.heap.size) := hB.size
        have HT : Hid _ := TKE
        clear hO hB Hr hC hCr TKE hgb hF
        go_wp2_with (first | refine wpList_load_by rfl 63 (.tmp 33) rfl _ _ rfl LD ?_ | (at_builtin; refine wpList_append_own _ rfl _ _ 34 rfl w.heap.size 63 i0 _ 13 48 Try.underlying34 hi hz0 hz1 hz2 rfl (by decide) _ F.length (flat F) rfl (OWN.out _) ⟨wr.heap.size, 0, none⟩ 1 1 x.L rfl (Sn.L_len x) (fun j u hj => by rw [Addr.add_lit, Nat.zero_add, World.cell?_alloc_new, ← hj]; simp [Sn.L]) (fun u hu => by simp [Sn.L] at hu; rcases hu with rfl | rfl | rfl | rfl | rfl | rfl | rfl | rfl | rfl | rfl | rfl | rfl | rfl <;> rfl) (by unfold maxLen; omega) (by omega) (by have := BAS.out; simp; omega) ?_; intro cv9 z9 hown hgrow _))
        have RES : Hid (OwnR z9 w.heap.size cv9 ((l.take (i + 1)).filter (keepB nd)) ∧ Below w.heap.size w z9) := by
          refine ⟨?_, (Below.al HBB.out _).grown hgrow (by have := BAS.out; simp; omega) (fun j hj => CVB.out j hj)⟩
          rw [HT.out]
          show z9.ownsRow _ 63 13 _ (F ++ [x]).length (flat (F ++ [x]))
          rw [flat_app, flat_one, List.length_append]
          exact hown
        clear hown hgrow OWN HBB CVB BAS LD
        go_wp2_with fail
        first
          | exact ⟨⟨cv9, i + 1, rfl, rfl, by omega, RES.out⟩, by simp [intOf]; omega⟩
          | exact ⟨⟨i + 1, rfl, by omega, RES.out⟩, by simp [intOf]; omega⟩
    · have gi : ¬ (i : Int) < (N : Int) := by omega
      have eT : l.take i = l := List.take_of_length_le (by rw [← hN.out]; omega)
      rw [eT] at hO
      obtain ⟨F, hF⟩ : ∃ F, Hid (F = l.filter (keepB nd)) := ⟨_, rfl⟩
      rw [← hF.out] at hO
      have hFl : F.length ≤ N := by rw [hF.out, hN.out]; exact List.length_filter_le _ _
      obtain ⟨ca, cc, rfl⟩ := ownR_form hO
      have f0 := Hr.fz 0
      have ws : IntKind.i64.wrap ((N : Int) - (F.length : Int)) = (N : Int) - (F.length : Int) := by rw [IntKind.wrap_i64]; omega
      have RES : Hid ((∃ v', IsD (wr.setCell ⟨p, 0, none⟩ (.slice ca F.length cc)) p v' F n) ∧ Kp [p] w (wr.setCell ⟨p, 0, none⟩ (.slice ca F.length cc))) := ⟨⟨_, ⟨by rw [heap_setCell_same wr p 0 _ _ _ Hr.head]; rfl, isR_set Hr.head (isR_own hO)⟩⟩, (Kp.of hB).set _ _ (.inl (by simp))⟩
      clear hO hB Hr HD hN eT
      go_wp2_with fail
      go_ret
      rw [← hF.out]
      exact ⟨rfl, RES.out⟩
#print axioms rgone_any
end Go.Proofs.Ytndlpjfofjikeaa
